/-
  Any numbers, and any text, are put behind any bytes as the document says: the walk.
-/
import Derived.Test.YtbogejpjnbdfcaaWireI
namespace Go.Proofs.Ytbogejpjnbdfcaa
open Go.RowKit
set_option maxRecDepth 100000

/-- A block is written that the row does not lie in. -/
theorem Rb.apart {w w' : World} {hi lo : Nat} {A : Option Addr} {xs : List UInt8} (h : Rb w hi A xs) (hf : Fb lo A xs) {row : Option Nat} (hg : w.grownBy w' row) (hd : ∀ g, row = some g → g < lo ∨ hi ≤ g) (_ : hi ≤ w.heap.size) : Rb w' hi A xs := by
  intro hx
  obtain ⟨b, o, h1, h2, h3⟩ := h hx
  obtain ⟨b', o', h4, h5⟩ := hf hx
  rw [h1] at h4
  injection h4 with h4
  injection h4 with h4
  subst h4
  exact ⟨b, o, h1, h2, fun j hj => hg.cell (h3 j hj) (fun e => by rcases hd b e.symm with h | h <;> omega)⟩
theorem own_apart {o : Option Nat} {g12 l10 h10 k14 : Nat} (h : o = some g12 ∨ o = some k14) (hd : g12 < l10 ∨ h10 ≤ g12) (hk : h10 ≤ k14) : ∀ g, o = some g → g < l10 ∨ h10 ≤ g := fun g hg => by
  rcases h with h | h
  · rw [h] at hg; cases hg; exact hd
  · rw [h] at hg; cases hg; exact .inr hk

theorem puts_long (A B : Option Addr) (n c m d : Nat) (s : ByteArray) (w : World) (hlong : 300 < n ∨ (n ≤ 300 ∧ 50 < m) ∨ (n ≤ 300 ∧ m ≤ 50 ∧ 300 < s.size)) :
    Calls Try.prog 3 #[.slice A n c, .slice B m d, .string s] w fun e w' => e = .returned (.bool true) ∧ Below w.heap.size w w' := by
  rcases hlong with h | ⟨h, h2⟩ | ⟨h, h2, h3⟩
  all_goals
    go_enter Try.func3, Try.ntmps3
    go_wp2_with fail
    refine (alive5_any w).mono ?_
    rintro e w1 ⟨rfl, hb⟩
    go_wp2_with fail
    go_ret
    exact ⟨rfl, hb⟩

set_option maxHeartbeats 8000000 in
theorem puts_walk (A B : Option Addr) (xs : List UInt8) (ls : List Nat) (n c m d : Nat) (s : ByteArray) (w : World) (hl : xs.length = n) (hm : ls.length = m) (hr : Rb w w.heap.size A xs) (hru : Ru w B ls) (hw : Wds ls) (hn : n ≤ 300) (hmm : m ≤ 50) (hs : s.size ≤ 300) :
    Calls Try.prog 3 #[.slice A n c, .slice B m d, .string s] w fun e w' => e = .returned (.bool true) ∧ Below w.heap.size w w' := by
  have HL := Lib.hid hl
  have HM := Lib.hid hm
  have HW := Lib.hid hw
  have HR0 := Lib.hid hr
  have HU0 := Lib.hid hru
  have HO := Lib.hid (made8 w w.heap.size (Nat.le_refl _))
  have HR := Lib.hid (hr.alloc (Nat.le_refl _) (.cells #[] 5))
  have hb0 := b1_ w (.cells #[] 5)
  have HB0 := Lib.hid hb0
  clear hl hm hr hru hw hb0
  go_enter Try.func3, Try.ntmps3
  go_wp2_with (at_builtin; go_loud (refine wpList_append_u8s _ rfl (.tmp 23) (.tmp 24) 22 rfl w.heap.size 5 Try.underlying22 info_b8 (.slice (some ⟨w.heap.size, 0, none⟩) 0 0) [] rfl HO.out w.heap.size A n xs _ HL.out rfl HR.out (by have := HL.out; simp; omega) (by simp) ?_); intro A1 n1 c1 w1 hl1 hc1 hown1 hg1)
  rw [List.nil_append] at hl1 hown1
  have hb1 : Below w.heap.size w w1 := HB0.out.grown hg1 (by simp) (by intro k hk; simp [Value.ownBlock] at hk; omega)
  clear hg1
  go_loopw [7, 8] (fun v i wr => ∃ k : Nat, i = .int .i64 (k : Int) ∧ k ≤ m ∧ ∃ A2 n2 c2, v = .slice A2 n2 c2 ∧ Hid ((xs ++ pns (ls.take k)).length = n2) ∧ n2 ≤ c2 ∧ Hid (wr.ownsRow w.heap.size 5 1 (.slice A2 n2 c2) n2 (u8s (xs ++ pns (ls.take k)))) ∧ Below w.heap.size w wr) (fun _ i _ => m - (intOf i).toNat)
  case atStart => exact ⟨0, rfl, by omega, A1, n1, c1, rfl, by simpa [pns] using hl1, hc1, by simpa [pns] using hown1, hb1⟩
  case round =>
    obtain ⟨k, rfl, hk, A2, n2, c2, rfl, HL2, hc2, HO2, hb2⟩ := hrel
    by_cases ht : k < m
    · obtain ⟨b, o, hB, hcell⟩ := (HU0.out.below hb2).at_ (k := k) (by have := HM.out; omega)
      subst hB
      have hi0 : (0 : Int) ≤ (k : Int) := by omega
      have hi1 : (k : Int) < (m : Int) := by omega
      have hlen := pns_len HW.out k (by have := HM.out; omega)
      have hn2 : n2 ≤ 1000000 := by have := HL2.out; have := HL.out; simp only [List.length_append] at *; omega
      go_wp2_with fail
      refine (refPut5_any w.heap.size n2 c2 A2 (xs ++ pns (ls.take k)) (nth ls k) wr HL2.out hc2 (HW.out.nth k) HO2.out hb2.size hn2).mono ?_
      rintro e w3 ⟨A3, n3, c3, rfl, hl3, hc3, hown3, hb3, _, _⟩
      rw [List.append_assoc, ← pns_succ (by have := HM.out; omega)] at hl3 hown3
      have HL3 := Lib.hid hl3
      have HO3 := Lib.hid hown3
      clear hl3 hown3
      go_wp2_with fail
      go_roundw
      case rel => exact ⟨k + 1, by go_num, by omega, A3, n3, c3, rfl, HL3, hc3, HO3, hb2.trans hb3⟩
      case measure => simp [intOf]; omega
    · obtain rfl : k = m := by omega
      go_wp2_with fail
      have hlt : ls.take k = ls := List.take_of_length_le (by have := HM.out; omega)
      rw [hlt] at HL2 HO2
      obtain ⟨w8, hw8⟩ : ∃ W, wr.drew = W := ⟨_, rfl⟩
      have hbd : Below w.heap.size w wr.drew := hb2.drew
      have hrb : Rb wr.drew w.heap.size A xs := HR0.out.below hbd (Nat.le_refl _)
      have hw7 : Rb wr.drew wr.drew.heap.size A2 (xs ++ pns ls) := Rb.of_own HO2.out
      have hru : Ru wr.drew B ls := HU0.out.below hbd
      obtain ⟨A7, rfl⟩ : ∃ a, A2 = a := ⟨_, rfl⟩
      have HRB := Lib.hid (hrb.more hbd.size)
      have HW7 := Lib.hid hw7
      have HRU := Lib.hid hru
      have HL7 := HL2
      have HB8 := Lib.hid hbd
      have HBS : Hid (Below wr.drew.heap.size wr.drew wr.drew) := Lib.hid (Below.refl _ _)
      clear hlt hbd hrb hw7 hru HR0 HU0 HO HR HB0 HO2 hb2 hb1 hl1 hown1 hw8 w8
      refine wp_region_held_drew (S := fun W => Below wr.drew.heap.size wr.drew W) (by kernel_rfl) (Below.refl _ _) (fun hHeld => ?_)
      refine wpAnyH_take (i := 0) (v := ?_) (op_of rfl) (by kernel_rfl) (by kernel_rfl) (by kernel_rfl) (fun _ _ _ h => h) (Or.inl ⟨by rfl, fun W hS => ?_⟩) (by assumption) ?_
      rotate_left
      · dsimp only at hS
        go_simp
        try with_reducible rfl
      try dsimp only [Act.put]
      try simp only [List.setIfInBounds_toArray, List.set_cons_zero, List.set_cons_succ]
      refine wpAnyH_take (i := 1) (v := ?_) (op_of rfl) (by kernel_rfl) (by kernel_rfl) (by kernel_rfl) (fun _ _ _ h => h) (Or.inl ⟨by rfl, fun W hS => ?_⟩) (by assumption) ?_
      rotate_left
      · dsimp only at hS
        go_simp
        try with_reducible rfl
      try dsimp only [Act.put]
      try simp only [List.setIfInBounds_toArray, List.set_cons_zero, List.set_cons_succ]
      refine wpAnyH_take (i := 4) (v := ?_) (op_of rfl) (by kernel_rfl) (by kernel_rfl) (by kernel_rfl) (fun _ _ _ h => h) (Or.inl ⟨by rfl, fun W hS => ?_⟩) (by assumption) ?_
      rotate_left
      · dsimp only at hS
        go_simp
        try with_reducible rfl
      try dsimp only [Act.put]
      try simp only [List.setIfInBounds_toArray, List.set_cons_zero, List.set_cons_succ]
      refine wpAnyH_take (i := 5) (v := ?_) (op_of rfl) (by kernel_rfl) (by kernel_rfl) (by kernel_rfl) (fun _ _ _ h => h) (Or.inl ⟨by rfl, fun W hS => ?_⟩) (by assumption) ?_
      rotate_left
      · dsimp only at hS
        have hcv := conv_bytes W _ _ _ _ c2 (HW7.out.below hS (Nat.le_refl _)) HL7.out
        go_simp
        try with_reducible rfl
      try dsimp only [Act.put]
      try simp only [List.setIfInBounds_toArray, List.set_cons_zero, List.set_cons_succ]
      refine wpAnyH_ready (rs := [2]) (by kernel_rfl) (by simp) (AllReadyH.cons (op_of rfl) (fun K hK => ?_) AllReadyH.nil)
      go_simp
      refine (wput_any A B xs ls n c _ d _ HL.out HM.out HRB.out HRU.out HW.out (by omega) (by omega)).mono ?_
      rintro en wn ⟨A2, n2, c2, rfl, hl2, hc2, hown2, hb⟩
      have HBS := Lib.hid hb
      have HR2 := Lib.hid (Rb.of_own hown2)
      have HL2 := Lib.hid hl2
      clear hown2 hl2 hb
      refine hK.out _ _ HBS.out (fun hHeld => ?_)
      clear hK K
      try dsimp only [Act.put]
      try simp only [List.setIfInBounds_toArray, List.set_cons_zero, List.set_cons_succ]
      refine wpAnyH_ready (rs := [3]) (by kernel_rfl) (by simp) (AllReadyH.cons (op_of rfl) (fun K hK => ?_) AllReadyH.nil)
      have hcv := conv_bytes _ _ _ _ _ c2 HR2.out HL2.out
      go_simp
      clear hcv
      refine hK.out _ _ HBS.out (fun hHeld => ?_)
      clear hK K
      try dsimp only [Act.put]
      try simp only [List.setIfInBounds_toArray, List.set_cons_zero, List.set_cons_succ]
      refine wpAnyH_take (i := 6) (v := ?_) (op_of rfl) (by kernel_rfl) (by kernel_rfl) (by kernel_rfl) (fun _ _ _ h => h) (Or.inl ⟨by rfl, fun W hS => ?_⟩) (by assumption) ?_
      rotate_left
      · dsimp only at hS
        go_simp
        try with_reducible rfl
      try dsimp only [Act.put]
      try simp only [List.setIfInBounds_toArray, List.set_cons_zero, List.set_cons_succ]
      refine wpAnyH_take (i := 7) (v := ?_) (op_of rfl) (by kernel_rfl) (by kernel_rfl) (by kernel_rfl) (fun _ _ _ h => h) (Or.inl ⟨by rfl, fun W hS => ?_⟩) (by assumption) ?_
      rotate_left
      · dsimp only at hS
        go_simp
        try with_reducible rfl
      try dsimp only [Act.put]
      try simp only [List.setIfInBounds_toArray, List.set_cons_zero, List.set_cons_succ]
      refine wpAnyH_take (i := 8) (v := ?_) (op_of rfl) (by kernel_rfl) (by kernel_rfl) (by kernel_rfl) (fun _ _ _ h => h) (Or.inl ⟨by rfl, fun W hS => ?_⟩) (by assumption) ?_
      rotate_left
      · dsimp only at hS
        go_simp
        try with_reducible rfl
      try dsimp only [Act.put]
      try simp only [List.setIfInBounds_toArray, List.set_cons_zero, List.set_cons_succ]
      refine wpAnyH_take (i := 9) (v := ?_) (op_of rfl) (by kernel_rfl) (by kernel_rfl) (by kernel_rfl) (fun _ _ _ h => h) (Or.inl ⟨by rfl, fun W hS => ?_⟩) (by assumption) ?_
      rotate_left
      · dsimp only at hS
        go_simp
        try with_reducible rfl
      try dsimp only [Act.put]
      try simp only [List.setIfInBounds_toArray, List.set_cons_zero, List.set_cons_succ]
      refine wpAnyH_take (i := 13) (v := ?_) (op_of rfl) (by kernel_rfl) (by kernel_rfl) (by kernel_rfl) (fun _ _ _ h => h) (Or.inl ⟨by rfl, fun W hS => ?_⟩) (by assumption) ?_
      rotate_left
      · dsimp only at hS
        go_simp
        try with_reducible rfl
      try dsimp only [Act.put]
      try simp only [List.setIfInBounds_toArray, List.set_cons_zero, List.set_cons_succ]
      refine wpAnyH_take (i := 15) (v := ?_) (op_of rfl) (by kernel_rfl) (by kernel_rfl) (by kernel_rfl) (fun _ _ _ h => h) (Or.inl ⟨by rfl, fun W hS => ?_⟩) (by assumption) ?_
      rotate_left
      · dsimp only at hS
        go_simp
        try with_reducible rfl
      try dsimp only [Act.put]
      try simp only [List.setIfInBounds_toArray, List.set_cons_zero, List.set_cons_succ]
      refine wpAnyH_ready (rs := [10, 12]) (by kernel_rfl) (by simp) (AllReadyH.cons (op_of rfl) (fun K hK => ?_) (AllReadyH.cons (op_of rfl) (fun K hK => ?_) AllReadyH.nil))
      · skip
        go_simp
        refine (putText_any A xs n c s _ HL.out ((HRB.out.below HBS.out (Nat.le_refl _)).more HBS.out.size) (by omega) (by omega)).mono ?_
        obtain ⟨l10, hl10e⟩ : ∃ l, wn.heap.size = l := ⟨_, rfl⟩
        rintro en wn ⟨A10, n10, c10, rfl, hl10, hc10, hown10, hb⟩
        have HBS := Lib.hid (HBS.out.trans (hb.mono HBS.out.size))
        have hf10 := Fb.of_own hown10
        rw [hl10e] at hf10
        have HF10 := Lib.hid hf10
        have hr10 := Rb.of_own hown10
        have HL10 := Lib.hid hl10
        obtain ⟨h10, hh10⟩ : ∃ h, wn.heap.size = h := ⟨_, rfl⟩
        have hle10 : h10 ≤ wn.heap.size := by omega
        rw [hh10] at hr10
        have HR10 := Lib.hid hr10
        clear hown10 hl10 hb hl10e hh10 hr10 hf10
        refine hK.out _ _ HBS.out (fun hHeld => ?_)
        clear hK K
        try dsimp only [Act.put]
        try simp only [List.setIfInBounds_toArray, List.set_cons_zero, List.set_cons_succ]
        refine wpAnyH_ready (rs := [11, 12]) (by kernel_rfl) (by simp) (AllReadyH.cons (op_of rfl) (fun K hK => ?_) (AllReadyH.cons (op_of rfl) (fun K hK => ?_) AllReadyH.nil))
        · skip
          have hcv := conv_bytes _ _ _ _ _ c10 HR10.out HL10.out
          go_simp
          clear hcv
          refine hK.out _ _ HBS.out (fun hHeld => ?_)
          clear hK K
          try dsimp only [Act.put]
          try simp only [List.setIfInBounds_toArray, List.set_cons_zero, List.set_cons_succ]
          refine wpAnyH_ready (rs := [12]) (by kernel_rfl) (by simp) (AllReadyH.cons (op_of rfl) (fun K hK => ?_) AllReadyH.nil)
          go_simp
          obtain ⟨g12, hge⟩ : ∃ g, wn.heap.size = g := ⟨_, rfl⟩
          have ho12 := made8 wn g12 (by omega)
          have hb := b1_ wn (.cells #[] 5)
          have hg8 : wr.drew.heap.size ≤ g12 := by have := HBS.out.size; omega
          have HR10 := Lib.hid (HR10.out.below hb hle10)
          have hd10 : g12 < l10 ∨ h10 ≤ g12 := .inr (by omega)
          have HBS := Lib.hid (HBS.out.trans (hb.mono HBS.out.size))
          have hg12 : g12 < (wn.alloc (.cells #[] 5)).heap.size := by simp; omega
          obtain ⟨wn, hwm⟩ : ∃ W, wn.alloc (.cells #[] 5) = W := ⟨_, rfl⟩
          rw [hwm] at hg12 ho12 hb HBS HR10
          rw [hge] at ho12 ⊢
          rw [hwm]
          have hle10 : h10 ≤ wn.heap.size := Nat.le_trans hle10 hb.size
          have HO12 := Lib.hid ho12
          clear ho12 hb hge hwm
          refine hK.out _ _ HBS.out (fun hHeld => ?_)
          clear hK K
          try dsimp only [Act.put]
          try simp only [List.setIfInBounds_toArray, List.set_cons_zero, List.set_cons_succ]
          refine wpAnyH_ready (rs := [14]) (by kernel_rfl) (by simp) (AllReadyH.cons (op_of rfl) (fun K hK => ?_) AllReadyH.nil)
          refine step_append_u8h _ rfl (.tmp 50) (.tmp 51) 22 rfl g12 5 Try.underlying22 info_b8 (.slice (some ⟨g12, 0, none⟩) 0 0) [] rfl HO12.out wn.heap.size A n xs c HL.out rfl ((HRB.out.below HBS.out (Nat.le_refl _)).more HBS.out.size) (by have := HL.out; simp; omega) (by omega) ?_
          obtain ⟨k14, hk14⟩ : ∃ k, wn.heap.size = k := ⟨_, rfl⟩
          intro A14 n14 c14 wn hl14 hc14 hown14 hg14 hat14
          rw [hk14] at hat14
          have HBS := Lib.hid (HBS.out.grown hg14 HBS.out.size (fun k hk => by cases hk; exact hg8))
          have HR10 := Lib.hid (HR10.out.apart HF10.out hg14 (fun k hk => by cases hk; exact hd10) hle10)
          have hlk : h10 ≤ k14 := by omega
          have hle10 : h10 ≤ wn.heap.size := Nat.le_trans hle10 hg14.size
          have hwg : g12 ≤ wn.heap.size := by have := hg14.size; omega
          have HO14 := hown14
          have HL14 := hl14
          have HAT := Lib.hid hat14
          clear hown14 hl14 hg14 hk14 hat14 HO12
          refine hK.out _ _ HBS.out (fun hHeld => ?_)
          clear hK K
          try dsimp only [Act.put]
          try simp only [List.setIfInBounds_toArray, List.set_cons_zero, List.set_cons_succ]
          refine wpAnyH_ready (rs := [16]) (by kernel_rfl) (by simp) (AllReadyH.cons (op_of rfl) (fun K hK => ?_) AllReadyH.nil)
          go_simp
          refine (refPutText_any g12 A14 ([] ++ xs) n14 c14 s _ HL14.out hc14 HO14.out hwg (by have := HL14.out; have := HL.out; simp at *; omega) (by omega)).mono ?_
          rintro en wn ⟨A16, n16, c16, rfl, hl16, hc16, hown16, hb16, hg16, _⟩
          have HBS := Lib.hid (HBS.out.trans (hb16.mono hg8))
          have HR10 := Lib.hid (HR10.out.apart HF10.out hg16 (own_apart HAT.out hd10 hlk) hle10)
          have hle10 : h10 ≤ wn.heap.size := Nat.le_trans hle10 hg16.size
          have HR16 := Lib.hid (Rb.of_own hown16)
          have HL16 := Lib.hid hl16
          clear hown16 hl16 hb16 hg16
          refine hK.out _ _ HBS.out (fun hHeld => ?_)
          clear hK K
          try dsimp only [Act.put]
          try simp only [List.setIfInBounds_toArray, List.set_cons_zero, List.set_cons_succ]
          refine wpAnyH_ready (rs := [17]) (by kernel_rfl) (by simp) (AllReadyH.cons (op_of rfl) (fun K hK => ?_) AllReadyH.nil)
          have hcv := conv_bytes _ _ _ _ _ c16 HR16.out HL16.out
          go_simp
          clear hcv
          refine hK.out _ _ HBS.out (fun hHeld => ?_)
          clear hK K
          try dsimp only [Act.put]
          try simp only [List.setIfInBounds_toArray, List.set_cons_zero, List.set_cons_succ]
          refine wpAnyH_take (i := 18) (v := ?_) (op_of rfl) (by kernel_rfl) (by kernel_rfl) (by kernel_rfl) (fun _ _ _ h => h) (Or.inl ⟨by rfl, fun W hS => ?_⟩) (by assumption) ?_
          rotate_left
          · dsimp only at hS
            go_simp
            try with_reducible rfl
          try dsimp only [Act.put]
          try simp only [List.setIfInBounds_toArray, List.set_cons_zero, List.set_cons_succ]
          refine wpAnyH_take (i := 19) (v := ?_) (op_of rfl) (by kernel_rfl) (by kernel_rfl) (by kernel_rfl) (fun _ _ _ h => h) (Or.inl ⟨by rfl, fun W hS => ?_⟩) (by assumption) ?_
          rotate_left
          · dsimp only at hS
            go_simp
            try with_reducible rfl
          try dsimp only [Act.put]
          try simp only [List.setIfInBounds_toArray, List.set_cons_zero, List.set_cons_succ]
          refine wpAnyH_take (i := 20) (v := ?_) (op_of rfl) (by kernel_rfl) (by kernel_rfl) (by kernel_rfl) (fun _ _ _ h => h) (Or.inl ⟨by rfl, fun W hS => ?_⟩) (by assumption) ?_
          rotate_left
          · dsimp only at hS
            go_simp
            try with_reducible rfl
          try dsimp only [Act.put]
          try simp only [List.setIfInBounds_toArray, List.set_cons_zero, List.set_cons_succ]
          refine wpAnyH_ready (rs := [21]) (by kernel_rfl) (by simp) (AllReadyH.cons (op_of rfl) (fun K hK => ?_) AllReadyH.nil)
          go_simp
          refine (alive5_any _).mono ?_
          rintro en wn ⟨rfl, hb⟩
          have HBS := Lib.hid (HBS.out.trans (hb.mono HBS.out.size))
          clear hb
          refine hK.out _ _ HBS.out (fun hHeld => ?_)
          clear hK K
          try dsimp only [Act.put]
          try simp only [List.setIfInBounds_toArray, List.set_cons_zero, List.set_cons_succ]
          refine wpAnyH_take (i := 22) (v := ?_) (op_of rfl) (by kernel_rfl) (by kernel_rfl) (by kernel_rfl) (fun _ _ _ h => h) (Or.inl ⟨by rfl, fun W hS => ?_⟩) (by assumption) ?_
          rotate_left
          · dsimp only at hS
            go_simp
            try with_reducible rfl
          try dsimp only [Act.put]
          try simp only [List.setIfInBounds_toArray, List.set_cons_zero, List.set_cons_succ]
          refine wpAnyH_ready (rs := [23]) (by kernel_rfl) (by simp) (AllReadyH.cons (op_of rfl) (fun K hK => ?_) AllReadyH.nil)
          go_simp
          refine hK.out _ _ HBS.out (fun hHeld => ?_)
          clear hK K
          try dsimp only [Act.put]
          try simp only [List.setIfInBounds_toArray, List.set_cons_zero, List.set_cons_succ]
          refine wpAnyH_done (by kernel_rfl) ?_ _
          go_wp2_with fail
          go_ret
          exact ⟨rfl, HB8.out.trans (HBS.out.mono HB8.out.size)⟩
        · skip
          go_simp
          obtain ⟨g12, hge⟩ : ∃ g, wn.heap.size = g := ⟨_, rfl⟩
          have ho12 := made8 wn g12 (by omega)
          have hb := b1_ wn (.cells #[] 5)
          have hg8 : wr.drew.heap.size ≤ g12 := by have := HBS.out.size; omega
          have HR10 := Lib.hid (HR10.out.below hb hle10)
          have hd10 : g12 < l10 ∨ h10 ≤ g12 := .inr (by omega)
          have HBS := Lib.hid (HBS.out.trans (hb.mono HBS.out.size))
          have hg12 : g12 < (wn.alloc (.cells #[] 5)).heap.size := by simp; omega
          obtain ⟨wn, hwm⟩ : ∃ W, wn.alloc (.cells #[] 5) = W := ⟨_, rfl⟩
          rw [hwm] at hg12 ho12 hb HBS HR10
          rw [hge] at ho12 ⊢
          rw [hwm]
          have hle10 : h10 ≤ wn.heap.size := Nat.le_trans hle10 hb.size
          have HO12 := Lib.hid ho12
          clear ho12 hb hge hwm
          refine hK.out _ _ HBS.out (fun hHeld => ?_)
          clear hK K
          try dsimp only [Act.put]
          try simp only [List.setIfInBounds_toArray, List.set_cons_zero, List.set_cons_succ]
          refine wpAnyH_ready (rs := [11, 14]) (by kernel_rfl) (by simp) (AllReadyH.cons (op_of rfl) (fun K hK => ?_) (AllReadyH.cons (op_of rfl) (fun K hK => ?_) AllReadyH.nil))
          · skip
            have hcv := conv_bytes _ _ _ _ _ c10 HR10.out HL10.out
            go_simp
            clear hcv
            refine hK.out _ _ HBS.out (fun hHeld => ?_)
            clear hK K
            try dsimp only [Act.put]
            try simp only [List.setIfInBounds_toArray, List.set_cons_zero, List.set_cons_succ]
            refine wpAnyH_ready (rs := [14]) (by kernel_rfl) (by simp) (AllReadyH.cons (op_of rfl) (fun K hK => ?_) AllReadyH.nil)
            refine step_append_u8h _ rfl (.tmp 50) (.tmp 51) 22 rfl g12 5 Try.underlying22 info_b8 (.slice (some ⟨g12, 0, none⟩) 0 0) [] rfl HO12.out wn.heap.size A n xs c HL.out rfl ((HRB.out.below HBS.out (Nat.le_refl _)).more HBS.out.size) (by have := HL.out; simp; omega) (by omega) ?_
            obtain ⟨k14, hk14⟩ : ∃ k, wn.heap.size = k := ⟨_, rfl⟩
            intro A14 n14 c14 wn hl14 hc14 hown14 hg14 hat14
            rw [hk14] at hat14
            have HBS := Lib.hid (HBS.out.grown hg14 HBS.out.size (fun k hk => by cases hk; exact hg8))
            have HR10 := Lib.hid (HR10.out.apart HF10.out hg14 (fun k hk => by cases hk; exact hd10) hle10)
            have hlk : h10 ≤ k14 := by omega
            have hle10 : h10 ≤ wn.heap.size := Nat.le_trans hle10 hg14.size
            have hwg : g12 ≤ wn.heap.size := by have := hg14.size; omega
            have HO14 := hown14
            have HL14 := hl14
            have HAT := Lib.hid hat14
            clear hown14 hl14 hg14 hk14 hat14 HO12
            refine hK.out _ _ HBS.out (fun hHeld => ?_)
            clear hK K
            try dsimp only [Act.put]
            try simp only [List.setIfInBounds_toArray, List.set_cons_zero, List.set_cons_succ]
            refine wpAnyH_ready (rs := [16]) (by kernel_rfl) (by simp) (AllReadyH.cons (op_of rfl) (fun K hK => ?_) AllReadyH.nil)
            go_simp
            refine (refPutText_any g12 A14 ([] ++ xs) n14 c14 s _ HL14.out hc14 HO14.out hwg (by have := HL14.out; have := HL.out; simp at *; omega) (by omega)).mono ?_
            rintro en wn ⟨A16, n16, c16, rfl, hl16, hc16, hown16, hb16, hg16, _⟩
            have HBS := Lib.hid (HBS.out.trans (hb16.mono hg8))
            have HR10 := Lib.hid (HR10.out.apart HF10.out hg16 (own_apart HAT.out hd10 hlk) hle10)
            have hle10 : h10 ≤ wn.heap.size := Nat.le_trans hle10 hg16.size
            have HR16 := Lib.hid (Rb.of_own hown16)
            have HL16 := Lib.hid hl16
            clear hown16 hl16 hb16 hg16
            refine hK.out _ _ HBS.out (fun hHeld => ?_)
            clear hK K
            try dsimp only [Act.put]
            try simp only [List.setIfInBounds_toArray, List.set_cons_zero, List.set_cons_succ]
            refine wpAnyH_ready (rs := [17]) (by kernel_rfl) (by simp) (AllReadyH.cons (op_of rfl) (fun K hK => ?_) AllReadyH.nil)
            have hcv := conv_bytes _ _ _ _ _ c16 HR16.out HL16.out
            go_simp
            clear hcv
            refine hK.out _ _ HBS.out (fun hHeld => ?_)
            clear hK K
            try dsimp only [Act.put]
            try simp only [List.setIfInBounds_toArray, List.set_cons_zero, List.set_cons_succ]
            refine wpAnyH_take (i := 18) (v := ?_) (op_of rfl) (by kernel_rfl) (by kernel_rfl) (by kernel_rfl) (fun _ _ _ h => h) (Or.inl ⟨by rfl, fun W hS => ?_⟩) (by assumption) ?_
            rotate_left
            · dsimp only at hS
              go_simp
              try with_reducible rfl
            try dsimp only [Act.put]
            try simp only [List.setIfInBounds_toArray, List.set_cons_zero, List.set_cons_succ]
            refine wpAnyH_take (i := 19) (v := ?_) (op_of rfl) (by kernel_rfl) (by kernel_rfl) (by kernel_rfl) (fun _ _ _ h => h) (Or.inl ⟨by rfl, fun W hS => ?_⟩) (by assumption) ?_
            rotate_left
            · dsimp only at hS
              go_simp
              try with_reducible rfl
            try dsimp only [Act.put]
            try simp only [List.setIfInBounds_toArray, List.set_cons_zero, List.set_cons_succ]
            refine wpAnyH_take (i := 20) (v := ?_) (op_of rfl) (by kernel_rfl) (by kernel_rfl) (by kernel_rfl) (fun _ _ _ h => h) (Or.inl ⟨by rfl, fun W hS => ?_⟩) (by assumption) ?_
            rotate_left
            · dsimp only at hS
              go_simp
              try with_reducible rfl
            try dsimp only [Act.put]
            try simp only [List.setIfInBounds_toArray, List.set_cons_zero, List.set_cons_succ]
            refine wpAnyH_ready (rs := [21]) (by kernel_rfl) (by simp) (AllReadyH.cons (op_of rfl) (fun K hK => ?_) AllReadyH.nil)
            go_simp
            refine (alive5_any _).mono ?_
            rintro en wn ⟨rfl, hb⟩
            have HBS := Lib.hid (HBS.out.trans (hb.mono HBS.out.size))
            clear hb
            refine hK.out _ _ HBS.out (fun hHeld => ?_)
            clear hK K
            try dsimp only [Act.put]
            try simp only [List.setIfInBounds_toArray, List.set_cons_zero, List.set_cons_succ]
            refine wpAnyH_take (i := 22) (v := ?_) (op_of rfl) (by kernel_rfl) (by kernel_rfl) (by kernel_rfl) (fun _ _ _ h => h) (Or.inl ⟨by rfl, fun W hS => ?_⟩) (by assumption) ?_
            rotate_left
            · dsimp only at hS
              go_simp
              try with_reducible rfl
            try dsimp only [Act.put]
            try simp only [List.setIfInBounds_toArray, List.set_cons_zero, List.set_cons_succ]
            refine wpAnyH_ready (rs := [23]) (by kernel_rfl) (by simp) (AllReadyH.cons (op_of rfl) (fun K hK => ?_) AllReadyH.nil)
            go_simp
            refine hK.out _ _ HBS.out (fun hHeld => ?_)
            clear hK K
            try dsimp only [Act.put]
            try simp only [List.setIfInBounds_toArray, List.set_cons_zero, List.set_cons_succ]
            refine wpAnyH_done (by kernel_rfl) ?_ _
            go_wp2_with fail
            go_ret
            exact ⟨rfl, HB8.out.trans (HBS.out.mono HB8.out.size)⟩
          · skip
            refine step_append_u8h _ rfl (.tmp 50) (.tmp 51) 22 rfl g12 5 Try.underlying22 info_b8 (.slice (some ⟨g12, 0, none⟩) 0 0) [] rfl HO12.out wn.heap.size A n xs c HL.out rfl ((HRB.out.below HBS.out (Nat.le_refl _)).more HBS.out.size) (by have := HL.out; simp; omega) (by omega) ?_
            obtain ⟨k14, hk14⟩ : ∃ k, wn.heap.size = k := ⟨_, rfl⟩
            intro A14 n14 c14 wn hl14 hc14 hown14 hg14 hat14
            rw [hk14] at hat14
            have HBS := Lib.hid (HBS.out.grown hg14 HBS.out.size (fun k hk => by cases hk; exact hg8))
            have HR10 := Lib.hid (HR10.out.apart HF10.out hg14 (fun k hk => by cases hk; exact hd10) hle10)
            have hlk : h10 ≤ k14 := by omega
            have hle10 : h10 ≤ wn.heap.size := Nat.le_trans hle10 hg14.size
            have hwg : g12 ≤ wn.heap.size := by have := hg14.size; omega
            have HO14 := hown14
            have HL14 := hl14
            have HAT := Lib.hid hat14
            clear hown14 hl14 hg14 hk14 hat14 HO12
            refine hK.out _ _ HBS.out (fun hHeld => ?_)
            clear hK K
            try dsimp only [Act.put]
            try simp only [List.setIfInBounds_toArray, List.set_cons_zero, List.set_cons_succ]
            refine wpAnyH_ready (rs := [11, 16]) (by kernel_rfl) (by simp) (AllReadyH.cons (op_of rfl) (fun K hK => ?_) (AllReadyH.cons (op_of rfl) (fun K hK => ?_) AllReadyH.nil))
            · skip
              have hcv := conv_bytes _ _ _ _ _ c10 HR10.out HL10.out
              go_simp
              clear hcv
              refine hK.out _ _ HBS.out (fun hHeld => ?_)
              clear hK K
              try dsimp only [Act.put]
              try simp only [List.setIfInBounds_toArray, List.set_cons_zero, List.set_cons_succ]
              refine wpAnyH_ready (rs := [16]) (by kernel_rfl) (by simp) (AllReadyH.cons (op_of rfl) (fun K hK => ?_) AllReadyH.nil)
              go_simp
              refine (refPutText_any g12 A14 ([] ++ xs) n14 c14 s _ HL14.out hc14 HO14.out hwg (by have := HL14.out; have := HL.out; simp at *; omega) (by omega)).mono ?_
              rintro en wn ⟨A16, n16, c16, rfl, hl16, hc16, hown16, hb16, hg16, _⟩
              have HBS := Lib.hid (HBS.out.trans (hb16.mono hg8))
              have HR10 := Lib.hid (HR10.out.apart HF10.out hg16 (own_apart HAT.out hd10 hlk) hle10)
              have hle10 : h10 ≤ wn.heap.size := Nat.le_trans hle10 hg16.size
              have HR16 := Lib.hid (Rb.of_own hown16)
              have HL16 := Lib.hid hl16
              clear hown16 hl16 hb16 hg16
              refine hK.out _ _ HBS.out (fun hHeld => ?_)
              clear hK K
              try dsimp only [Act.put]
              try simp only [List.setIfInBounds_toArray, List.set_cons_zero, List.set_cons_succ]
              refine wpAnyH_ready (rs := [17]) (by kernel_rfl) (by simp) (AllReadyH.cons (op_of rfl) (fun K hK => ?_) AllReadyH.nil)
              have hcv := conv_bytes _ _ _ _ _ c16 HR16.out HL16.out
              go_simp
              clear hcv
              refine hK.out _ _ HBS.out (fun hHeld => ?_)
              clear hK K
              try dsimp only [Act.put]
              try simp only [List.setIfInBounds_toArray, List.set_cons_zero, List.set_cons_succ]
              refine wpAnyH_take (i := 18) (v := ?_) (op_of rfl) (by kernel_rfl) (by kernel_rfl) (by kernel_rfl) (fun _ _ _ h => h) (Or.inl ⟨by rfl, fun W hS => ?_⟩) (by assumption) ?_
              rotate_left
              · dsimp only at hS
                go_simp
                try with_reducible rfl
              try dsimp only [Act.put]
              try simp only [List.setIfInBounds_toArray, List.set_cons_zero, List.set_cons_succ]
              refine wpAnyH_take (i := 19) (v := ?_) (op_of rfl) (by kernel_rfl) (by kernel_rfl) (by kernel_rfl) (fun _ _ _ h => h) (Or.inl ⟨by rfl, fun W hS => ?_⟩) (by assumption) ?_
              rotate_left
              · dsimp only at hS
                go_simp
                try with_reducible rfl
              try dsimp only [Act.put]
              try simp only [List.setIfInBounds_toArray, List.set_cons_zero, List.set_cons_succ]
              refine wpAnyH_take (i := 20) (v := ?_) (op_of rfl) (by kernel_rfl) (by kernel_rfl) (by kernel_rfl) (fun _ _ _ h => h) (Or.inl ⟨by rfl, fun W hS => ?_⟩) (by assumption) ?_
              rotate_left
              · dsimp only at hS
                go_simp
                try with_reducible rfl
              try dsimp only [Act.put]
              try simp only [List.setIfInBounds_toArray, List.set_cons_zero, List.set_cons_succ]
              refine wpAnyH_ready (rs := [21]) (by kernel_rfl) (by simp) (AllReadyH.cons (op_of rfl) (fun K hK => ?_) AllReadyH.nil)
              go_simp
              refine (alive5_any _).mono ?_
              rintro en wn ⟨rfl, hb⟩
              have HBS := Lib.hid (HBS.out.trans (hb.mono HBS.out.size))
              clear hb
              refine hK.out _ _ HBS.out (fun hHeld => ?_)
              clear hK K
              try dsimp only [Act.put]
              try simp only [List.setIfInBounds_toArray, List.set_cons_zero, List.set_cons_succ]
              refine wpAnyH_take (i := 22) (v := ?_) (op_of rfl) (by kernel_rfl) (by kernel_rfl) (by kernel_rfl) (fun _ _ _ h => h) (Or.inl ⟨by rfl, fun W hS => ?_⟩) (by assumption) ?_
              rotate_left
              · dsimp only at hS
                go_simp
                try with_reducible rfl
              try dsimp only [Act.put]
              try simp only [List.setIfInBounds_toArray, List.set_cons_zero, List.set_cons_succ]
              refine wpAnyH_ready (rs := [23]) (by kernel_rfl) (by simp) (AllReadyH.cons (op_of rfl) (fun K hK => ?_) AllReadyH.nil)
              go_simp
              refine hK.out _ _ HBS.out (fun hHeld => ?_)
              clear hK K
              try dsimp only [Act.put]
              try simp only [List.setIfInBounds_toArray, List.set_cons_zero, List.set_cons_succ]
              refine wpAnyH_done (by kernel_rfl) ?_ _
              go_wp2_with fail
              go_ret
              exact ⟨rfl, HB8.out.trans (HBS.out.mono HB8.out.size)⟩
            · skip
              go_simp
              refine (refPutText_any g12 A14 ([] ++ xs) n14 c14 s _ HL14.out hc14 HO14.out hwg (by have := HL14.out; have := HL.out; simp at *; omega) (by omega)).mono ?_
              rintro en wn ⟨A16, n16, c16, rfl, hl16, hc16, hown16, hb16, hg16, _⟩
              have HBS := Lib.hid (HBS.out.trans (hb16.mono hg8))
              have HR10 := Lib.hid (HR10.out.apart HF10.out hg16 (own_apart HAT.out hd10 hlk) hle10)
              have hle10 : h10 ≤ wn.heap.size := Nat.le_trans hle10 hg16.size
              have HR16 := Lib.hid (Rb.of_own hown16)
              have HL16 := Lib.hid hl16
              clear hown16 hl16 hb16 hg16
              refine hK.out _ _ HBS.out (fun hHeld => ?_)
              clear hK K
              try dsimp only [Act.put]
              try simp only [List.setIfInBounds_toArray, List.set_cons_zero, List.set_cons_succ]
              refine wpAnyH_ready (rs := [11, 17]) (by kernel_rfl) (by simp) (AllReadyH.cons (op_of rfl) (fun K hK => ?_) (AllReadyH.cons (op_of rfl) (fun K hK => ?_) AllReadyH.nil))
              · skip
                have hcv := conv_bytes _ _ _ _ _ c10 HR10.out HL10.out
                go_simp
                clear hcv
                refine hK.out _ _ HBS.out (fun hHeld => ?_)
                clear hK K
                try dsimp only [Act.put]
                try simp only [List.setIfInBounds_toArray, List.set_cons_zero, List.set_cons_succ]
                refine wpAnyH_ready (rs := [17]) (by kernel_rfl) (by simp) (AllReadyH.cons (op_of rfl) (fun K hK => ?_) AllReadyH.nil)
                have hcv := conv_bytes _ _ _ _ _ c16 HR16.out HL16.out
                go_simp
                clear hcv
                refine hK.out _ _ HBS.out (fun hHeld => ?_)
                clear hK K
                try dsimp only [Act.put]
                try simp only [List.setIfInBounds_toArray, List.set_cons_zero, List.set_cons_succ]
                refine wpAnyH_take (i := 18) (v := ?_) (op_of rfl) (by kernel_rfl) (by kernel_rfl) (by kernel_rfl) (fun _ _ _ h => h) (Or.inl ⟨by rfl, fun W hS => ?_⟩) (by assumption) ?_
                rotate_left
                · dsimp only at hS
                  go_simp
                  try with_reducible rfl
                try dsimp only [Act.put]
                try simp only [List.setIfInBounds_toArray, List.set_cons_zero, List.set_cons_succ]
                refine wpAnyH_take (i := 19) (v := ?_) (op_of rfl) (by kernel_rfl) (by kernel_rfl) (by kernel_rfl) (fun _ _ _ h => h) (Or.inl ⟨by rfl, fun W hS => ?_⟩) (by assumption) ?_
                rotate_left
                · dsimp only at hS
                  go_simp
                  try with_reducible rfl
                try dsimp only [Act.put]
                try simp only [List.setIfInBounds_toArray, List.set_cons_zero, List.set_cons_succ]
                refine wpAnyH_take (i := 20) (v := ?_) (op_of rfl) (by kernel_rfl) (by kernel_rfl) (by kernel_rfl) (fun _ _ _ h => h) (Or.inl ⟨by rfl, fun W hS => ?_⟩) (by assumption) ?_
                rotate_left
                · dsimp only at hS
                  go_simp
                  try with_reducible rfl
                try dsimp only [Act.put]
                try simp only [List.setIfInBounds_toArray, List.set_cons_zero, List.set_cons_succ]
                refine wpAnyH_ready (rs := [21]) (by kernel_rfl) (by simp) (AllReadyH.cons (op_of rfl) (fun K hK => ?_) AllReadyH.nil)
                go_simp
                refine (alive5_any _).mono ?_
                rintro en wn ⟨rfl, hb⟩
                have HBS := Lib.hid (HBS.out.trans (hb.mono HBS.out.size))
                clear hb
                refine hK.out _ _ HBS.out (fun hHeld => ?_)
                clear hK K
                try dsimp only [Act.put]
                try simp only [List.setIfInBounds_toArray, List.set_cons_zero, List.set_cons_succ]
                refine wpAnyH_take (i := 22) (v := ?_) (op_of rfl) (by kernel_rfl) (by kernel_rfl) (by kernel_rfl) (fun _ _ _ h => h) (Or.inl ⟨by rfl, fun W hS => ?_⟩) (by assumption) ?_
                rotate_left
                · dsimp only at hS
                  go_simp
                  try with_reducible rfl
                try dsimp only [Act.put]
                try simp only [List.setIfInBounds_toArray, List.set_cons_zero, List.set_cons_succ]
                refine wpAnyH_ready (rs := [23]) (by kernel_rfl) (by simp) (AllReadyH.cons (op_of rfl) (fun K hK => ?_) AllReadyH.nil)
                go_simp
                refine hK.out _ _ HBS.out (fun hHeld => ?_)
                clear hK K
                try dsimp only [Act.put]
                try simp only [List.setIfInBounds_toArray, List.set_cons_zero, List.set_cons_succ]
                refine wpAnyH_done (by kernel_rfl) ?_ _
                go_wp2_with fail
                go_ret
                exact ⟨rfl, HB8.out.trans (HBS.out.mono HB8.out.size)⟩
              · skip
                have hcv := conv_bytes _ _ _ _ _ c16 HR16.out HL16.out
                go_simp
                clear hcv
                refine hK.out _ _ HBS.out (fun hHeld => ?_)
                clear hK K
                try dsimp only [Act.put]
                try simp only [List.setIfInBounds_toArray, List.set_cons_zero, List.set_cons_succ]
                refine wpAnyH_ready (rs := [11]) (by kernel_rfl) (by simp) (AllReadyH.cons (op_of rfl) (fun K hK => ?_) AllReadyH.nil)
                have hcv := conv_bytes _ _ _ _ _ c10 HR10.out HL10.out
                go_simp
                clear hcv
                refine hK.out _ _ HBS.out (fun hHeld => ?_)
                clear hK K
                try dsimp only [Act.put]
                try simp only [List.setIfInBounds_toArray, List.set_cons_zero, List.set_cons_succ]
                refine wpAnyH_take (i := 18) (v := ?_) (op_of rfl) (by kernel_rfl) (by kernel_rfl) (by kernel_rfl) (fun _ _ _ h => h) (Or.inl ⟨by rfl, fun W hS => ?_⟩) (by assumption) ?_
                rotate_left
                · dsimp only at hS
                  go_simp
                  try with_reducible rfl
                try dsimp only [Act.put]
                try simp only [List.setIfInBounds_toArray, List.set_cons_zero, List.set_cons_succ]
                refine wpAnyH_take (i := 19) (v := ?_) (op_of rfl) (by kernel_rfl) (by kernel_rfl) (by kernel_rfl) (fun _ _ _ h => h) (Or.inl ⟨by rfl, fun W hS => ?_⟩) (by assumption) ?_
                rotate_left
                · dsimp only at hS
                  go_simp
                  try with_reducible rfl
                try dsimp only [Act.put]
                try simp only [List.setIfInBounds_toArray, List.set_cons_zero, List.set_cons_succ]
                refine wpAnyH_take (i := 20) (v := ?_) (op_of rfl) (by kernel_rfl) (by kernel_rfl) (by kernel_rfl) (fun _ _ _ h => h) (Or.inl ⟨by rfl, fun W hS => ?_⟩) (by assumption) ?_
                rotate_left
                · dsimp only at hS
                  go_simp
                  try with_reducible rfl
                try dsimp only [Act.put]
                try simp only [List.setIfInBounds_toArray, List.set_cons_zero, List.set_cons_succ]
                refine wpAnyH_ready (rs := [21]) (by kernel_rfl) (by simp) (AllReadyH.cons (op_of rfl) (fun K hK => ?_) AllReadyH.nil)
                go_simp
                refine (alive5_any _).mono ?_
                rintro en wn ⟨rfl, hb⟩
                have HBS := Lib.hid (HBS.out.trans (hb.mono HBS.out.size))
                clear hb
                refine hK.out _ _ HBS.out (fun hHeld => ?_)
                clear hK K
                try dsimp only [Act.put]
                try simp only [List.setIfInBounds_toArray, List.set_cons_zero, List.set_cons_succ]
                refine wpAnyH_take (i := 22) (v := ?_) (op_of rfl) (by kernel_rfl) (by kernel_rfl) (by kernel_rfl) (fun _ _ _ h => h) (Or.inl ⟨by rfl, fun W hS => ?_⟩) (by assumption) ?_
                rotate_left
                · dsimp only at hS
                  go_simp
                  try with_reducible rfl
                try dsimp only [Act.put]
                try simp only [List.setIfInBounds_toArray, List.set_cons_zero, List.set_cons_succ]
                refine wpAnyH_ready (rs := [23]) (by kernel_rfl) (by simp) (AllReadyH.cons (op_of rfl) (fun K hK => ?_) AllReadyH.nil)
                go_simp
                refine hK.out _ _ HBS.out (fun hHeld => ?_)
                clear hK K
                try dsimp only [Act.put]
                try simp only [List.setIfInBounds_toArray, List.set_cons_zero, List.set_cons_succ]
                refine wpAnyH_done (by kernel_rfl) ?_ _
                go_wp2_with fail
                go_ret
                exact ⟨rfl, HB8.out.trans (HBS.out.mono HB8.out.size)⟩
      · skip
        go_simp
        obtain ⟨g12, hge⟩ : ∃ g, wn.heap.size = g := ⟨_, rfl⟩
        have ho12 := made8 wn g12 (by omega)
        have hb := b1_ wn (.cells #[] 5)
        have hg8 : wr.drew.heap.size ≤ g12 := by have := HBS.out.size; omega
        have HBS := Lib.hid (HBS.out.trans (hb.mono HBS.out.size))
        have hg12 : g12 < (wn.alloc (.cells #[] 5)).heap.size := by simp; omega
        obtain ⟨wn, hwm⟩ : ∃ W, wn.alloc (.cells #[] 5) = W := ⟨_, rfl⟩
        rw [hwm] at hg12 ho12 hb HBS
        rw [hge] at ho12 ⊢
        rw [hwm]
        have HO12 := Lib.hid ho12
        clear ho12 hb hge hwm
        refine hK.out _ _ HBS.out (fun hHeld => ?_)
        clear hK K
        try dsimp only [Act.put]
        try simp only [List.setIfInBounds_toArray, List.set_cons_zero, List.set_cons_succ]
        refine wpAnyH_ready (rs := [10]) (by kernel_rfl) (by simp) (AllReadyH.cons (op_of rfl) (fun K hK => ?_) AllReadyH.nil)
        go_simp
        refine (putText_any A xs n c s _ HL.out ((HRB.out.below HBS.out (Nat.le_refl _)).more HBS.out.size) (by omega) (by omega)).mono ?_
        obtain ⟨l10, hl10e⟩ : ∃ l, wn.heap.size = l := ⟨_, rfl⟩
        rintro en wn ⟨A10, n10, c10, rfl, hl10, hc10, hown10, hb⟩
        have HO12 := Lib.hid (owns_below HO12.out hb hg12)
        have hd10 : g12 < l10 := by omega
        have hg12 : g12 < wn.heap.size := Nat.lt_of_lt_of_le hg12 hb.size
        have HBS := Lib.hid (HBS.out.trans (hb.mono HBS.out.size))
        have hf10 := Fb.of_own hown10
        rw [hl10e] at hf10
        have HF10 := Lib.hid hf10
        have hr10 := Rb.of_own hown10
        have HL10 := Lib.hid hl10
        obtain ⟨h10, hh10⟩ : ∃ h, wn.heap.size = h := ⟨_, rfl⟩
        have hle10 : h10 ≤ wn.heap.size := by omega
        rw [hh10] at hr10
        have HR10 := Lib.hid hr10
        have hd10 : g12 < l10 ∨ h10 ≤ g12 := .inl hd10
        clear hown10 hl10 hb hl10e hh10 hr10 hf10
        refine hK.out _ _ HBS.out (fun hHeld => ?_)
        clear hK K
        try dsimp only [Act.put]
        try simp only [List.setIfInBounds_toArray, List.set_cons_zero, List.set_cons_succ]
        refine wpAnyH_ready (rs := [11, 14]) (by kernel_rfl) (by simp) (AllReadyH.cons (op_of rfl) (fun K hK => ?_) (AllReadyH.cons (op_of rfl) (fun K hK => ?_) AllReadyH.nil))
        · skip
          have hcv := conv_bytes _ _ _ _ _ c10 HR10.out HL10.out
          go_simp
          clear hcv
          refine hK.out _ _ HBS.out (fun hHeld => ?_)
          clear hK K
          try dsimp only [Act.put]
          try simp only [List.setIfInBounds_toArray, List.set_cons_zero, List.set_cons_succ]
          refine wpAnyH_ready (rs := [14]) (by kernel_rfl) (by simp) (AllReadyH.cons (op_of rfl) (fun K hK => ?_) AllReadyH.nil)
          refine step_append_u8h _ rfl (.tmp 50) (.tmp 51) 22 rfl g12 5 Try.underlying22 info_b8 (.slice (some ⟨g12, 0, none⟩) 0 0) [] rfl HO12.out wn.heap.size A n xs c HL.out rfl ((HRB.out.below HBS.out (Nat.le_refl _)).more HBS.out.size) (by have := HL.out; simp; omega) (by omega) ?_
          obtain ⟨k14, hk14⟩ : ∃ k, wn.heap.size = k := ⟨_, rfl⟩
          intro A14 n14 c14 wn hl14 hc14 hown14 hg14 hat14
          rw [hk14] at hat14
          have HBS := Lib.hid (HBS.out.grown hg14 HBS.out.size (fun k hk => by cases hk; exact hg8))
          have HR10 := Lib.hid (HR10.out.apart HF10.out hg14 (fun k hk => by cases hk; exact hd10) hle10)
          have hlk : h10 ≤ k14 := by omega
          have hle10 : h10 ≤ wn.heap.size := Nat.le_trans hle10 hg14.size
          have hwg : g12 ≤ wn.heap.size := by have := hg14.size; omega
          have HO14 := hown14
          have HL14 := hl14
          have HAT := Lib.hid hat14
          clear hown14 hl14 hg14 hk14 hat14 HO12
          refine hK.out _ _ HBS.out (fun hHeld => ?_)
          clear hK K
          try dsimp only [Act.put]
          try simp only [List.setIfInBounds_toArray, List.set_cons_zero, List.set_cons_succ]
          refine wpAnyH_ready (rs := [16]) (by kernel_rfl) (by simp) (AllReadyH.cons (op_of rfl) (fun K hK => ?_) AllReadyH.nil)
          go_simp
          refine (refPutText_any g12 A14 ([] ++ xs) n14 c14 s _ HL14.out hc14 HO14.out hwg (by have := HL14.out; have := HL.out; simp at *; omega) (by omega)).mono ?_
          rintro en wn ⟨A16, n16, c16, rfl, hl16, hc16, hown16, hb16, hg16, _⟩
          have HBS := Lib.hid (HBS.out.trans (hb16.mono hg8))
          have HR10 := Lib.hid (HR10.out.apart HF10.out hg16 (own_apart HAT.out hd10 hlk) hle10)
          have hle10 : h10 ≤ wn.heap.size := Nat.le_trans hle10 hg16.size
          have HR16 := Lib.hid (Rb.of_own hown16)
          have HL16 := Lib.hid hl16
          clear hown16 hl16 hb16 hg16
          refine hK.out _ _ HBS.out (fun hHeld => ?_)
          clear hK K
          try dsimp only [Act.put]
          try simp only [List.setIfInBounds_toArray, List.set_cons_zero, List.set_cons_succ]
          refine wpAnyH_ready (rs := [17]) (by kernel_rfl) (by simp) (AllReadyH.cons (op_of rfl) (fun K hK => ?_) AllReadyH.nil)
          have hcv := conv_bytes _ _ _ _ _ c16 HR16.out HL16.out
          go_simp
          clear hcv
          refine hK.out _ _ HBS.out (fun hHeld => ?_)
          clear hK K
          try dsimp only [Act.put]
          try simp only [List.setIfInBounds_toArray, List.set_cons_zero, List.set_cons_succ]
          refine wpAnyH_take (i := 18) (v := ?_) (op_of rfl) (by kernel_rfl) (by kernel_rfl) (by kernel_rfl) (fun _ _ _ h => h) (Or.inl ⟨by rfl, fun W hS => ?_⟩) (by assumption) ?_
          rotate_left
          · dsimp only at hS
            go_simp
            try with_reducible rfl
          try dsimp only [Act.put]
          try simp only [List.setIfInBounds_toArray, List.set_cons_zero, List.set_cons_succ]
          refine wpAnyH_take (i := 19) (v := ?_) (op_of rfl) (by kernel_rfl) (by kernel_rfl) (by kernel_rfl) (fun _ _ _ h => h) (Or.inl ⟨by rfl, fun W hS => ?_⟩) (by assumption) ?_
          rotate_left
          · dsimp only at hS
            go_simp
            try with_reducible rfl
          try dsimp only [Act.put]
          try simp only [List.setIfInBounds_toArray, List.set_cons_zero, List.set_cons_succ]
          refine wpAnyH_take (i := 20) (v := ?_) (op_of rfl) (by kernel_rfl) (by kernel_rfl) (by kernel_rfl) (fun _ _ _ h => h) (Or.inl ⟨by rfl, fun W hS => ?_⟩) (by assumption) ?_
          rotate_left
          · dsimp only at hS
            go_simp
            try with_reducible rfl
          try dsimp only [Act.put]
          try simp only [List.setIfInBounds_toArray, List.set_cons_zero, List.set_cons_succ]
          refine wpAnyH_ready (rs := [21]) (by kernel_rfl) (by simp) (AllReadyH.cons (op_of rfl) (fun K hK => ?_) AllReadyH.nil)
          go_simp
          refine (alive5_any _).mono ?_
          rintro en wn ⟨rfl, hb⟩
          have HBS := Lib.hid (HBS.out.trans (hb.mono HBS.out.size))
          clear hb
          refine hK.out _ _ HBS.out (fun hHeld => ?_)
          clear hK K
          try dsimp only [Act.put]
          try simp only [List.setIfInBounds_toArray, List.set_cons_zero, List.set_cons_succ]
          refine wpAnyH_take (i := 22) (v := ?_) (op_of rfl) (by kernel_rfl) (by kernel_rfl) (by kernel_rfl) (fun _ _ _ h => h) (Or.inl ⟨by rfl, fun W hS => ?_⟩) (by assumption) ?_
          rotate_left
          · dsimp only at hS
            go_simp
            try with_reducible rfl
          try dsimp only [Act.put]
          try simp only [List.setIfInBounds_toArray, List.set_cons_zero, List.set_cons_succ]
          refine wpAnyH_ready (rs := [23]) (by kernel_rfl) (by simp) (AllReadyH.cons (op_of rfl) (fun K hK => ?_) AllReadyH.nil)
          go_simp
          refine hK.out _ _ HBS.out (fun hHeld => ?_)
          clear hK K
          try dsimp only [Act.put]
          try simp only [List.setIfInBounds_toArray, List.set_cons_zero, List.set_cons_succ]
          refine wpAnyH_done (by kernel_rfl) ?_ _
          go_wp2_with fail
          go_ret
          exact ⟨rfl, HB8.out.trans (HBS.out.mono HB8.out.size)⟩
        · skip
          refine step_append_u8h _ rfl (.tmp 50) (.tmp 51) 22 rfl g12 5 Try.underlying22 info_b8 (.slice (some ⟨g12, 0, none⟩) 0 0) [] rfl HO12.out wn.heap.size A n xs c HL.out rfl ((HRB.out.below HBS.out (Nat.le_refl _)).more HBS.out.size) (by have := HL.out; simp; omega) (by omega) ?_
          obtain ⟨k14, hk14⟩ : ∃ k, wn.heap.size = k := ⟨_, rfl⟩
          intro A14 n14 c14 wn hl14 hc14 hown14 hg14 hat14
          rw [hk14] at hat14
          have HBS := Lib.hid (HBS.out.grown hg14 HBS.out.size (fun k hk => by cases hk; exact hg8))
          have HR10 := Lib.hid (HR10.out.apart HF10.out hg14 (fun k hk => by cases hk; exact hd10) hle10)
          have hlk : h10 ≤ k14 := by omega
          have hle10 : h10 ≤ wn.heap.size := Nat.le_trans hle10 hg14.size
          have hwg : g12 ≤ wn.heap.size := by have := hg14.size; omega
          have HO14 := hown14
          have HL14 := hl14
          have HAT := Lib.hid hat14
          clear hown14 hl14 hg14 hk14 hat14 HO12
          refine hK.out _ _ HBS.out (fun hHeld => ?_)
          clear hK K
          try dsimp only [Act.put]
          try simp only [List.setIfInBounds_toArray, List.set_cons_zero, List.set_cons_succ]
          refine wpAnyH_ready (rs := [11, 16]) (by kernel_rfl) (by simp) (AllReadyH.cons (op_of rfl) (fun K hK => ?_) (AllReadyH.cons (op_of rfl) (fun K hK => ?_) AllReadyH.nil))
          · skip
            have hcv := conv_bytes _ _ _ _ _ c10 HR10.out HL10.out
            go_simp
            clear hcv
            refine hK.out _ _ HBS.out (fun hHeld => ?_)
            clear hK K
            try dsimp only [Act.put]
            try simp only [List.setIfInBounds_toArray, List.set_cons_zero, List.set_cons_succ]
            refine wpAnyH_ready (rs := [16]) (by kernel_rfl) (by simp) (AllReadyH.cons (op_of rfl) (fun K hK => ?_) AllReadyH.nil)
            go_simp
            refine (refPutText_any g12 A14 ([] ++ xs) n14 c14 s _ HL14.out hc14 HO14.out hwg (by have := HL14.out; have := HL.out; simp at *; omega) (by omega)).mono ?_
            rintro en wn ⟨A16, n16, c16, rfl, hl16, hc16, hown16, hb16, hg16, _⟩
            have HBS := Lib.hid (HBS.out.trans (hb16.mono hg8))
            have HR10 := Lib.hid (HR10.out.apart HF10.out hg16 (own_apart HAT.out hd10 hlk) hle10)
            have hle10 : h10 ≤ wn.heap.size := Nat.le_trans hle10 hg16.size
            have HR16 := Lib.hid (Rb.of_own hown16)
            have HL16 := Lib.hid hl16
            clear hown16 hl16 hb16 hg16
            refine hK.out _ _ HBS.out (fun hHeld => ?_)
            clear hK K
            try dsimp only [Act.put]
            try simp only [List.setIfInBounds_toArray, List.set_cons_zero, List.set_cons_succ]
            refine wpAnyH_ready (rs := [17]) (by kernel_rfl) (by simp) (AllReadyH.cons (op_of rfl) (fun K hK => ?_) AllReadyH.nil)
            have hcv := conv_bytes _ _ _ _ _ c16 HR16.out HL16.out
            go_simp
            clear hcv
            refine hK.out _ _ HBS.out (fun hHeld => ?_)
            clear hK K
            try dsimp only [Act.put]
            try simp only [List.setIfInBounds_toArray, List.set_cons_zero, List.set_cons_succ]
            refine wpAnyH_take (i := 18) (v := ?_) (op_of rfl) (by kernel_rfl) (by kernel_rfl) (by kernel_rfl) (fun _ _ _ h => h) (Or.inl ⟨by rfl, fun W hS => ?_⟩) (by assumption) ?_
            rotate_left
            · dsimp only at hS
              go_simp
              try with_reducible rfl
            try dsimp only [Act.put]
            try simp only [List.setIfInBounds_toArray, List.set_cons_zero, List.set_cons_succ]
            refine wpAnyH_take (i := 19) (v := ?_) (op_of rfl) (by kernel_rfl) (by kernel_rfl) (by kernel_rfl) (fun _ _ _ h => h) (Or.inl ⟨by rfl, fun W hS => ?_⟩) (by assumption) ?_
            rotate_left
            · dsimp only at hS
              go_simp
              try with_reducible rfl
            try dsimp only [Act.put]
            try simp only [List.setIfInBounds_toArray, List.set_cons_zero, List.set_cons_succ]
            refine wpAnyH_take (i := 20) (v := ?_) (op_of rfl) (by kernel_rfl) (by kernel_rfl) (by kernel_rfl) (fun _ _ _ h => h) (Or.inl ⟨by rfl, fun W hS => ?_⟩) (by assumption) ?_
            rotate_left
            · dsimp only at hS
              go_simp
              try with_reducible rfl
            try dsimp only [Act.put]
            try simp only [List.setIfInBounds_toArray, List.set_cons_zero, List.set_cons_succ]
            refine wpAnyH_ready (rs := [21]) (by kernel_rfl) (by simp) (AllReadyH.cons (op_of rfl) (fun K hK => ?_) AllReadyH.nil)
            go_simp
            refine (alive5_any _).mono ?_
            rintro en wn ⟨rfl, hb⟩
            have HBS := Lib.hid (HBS.out.trans (hb.mono HBS.out.size))
            clear hb
            refine hK.out _ _ HBS.out (fun hHeld => ?_)
            clear hK K
            try dsimp only [Act.put]
            try simp only [List.setIfInBounds_toArray, List.set_cons_zero, List.set_cons_succ]
            refine wpAnyH_take (i := 22) (v := ?_) (op_of rfl) (by kernel_rfl) (by kernel_rfl) (by kernel_rfl) (fun _ _ _ h => h) (Or.inl ⟨by rfl, fun W hS => ?_⟩) (by assumption) ?_
            rotate_left
            · dsimp only at hS
              go_simp
              try with_reducible rfl
            try dsimp only [Act.put]
            try simp only [List.setIfInBounds_toArray, List.set_cons_zero, List.set_cons_succ]
            refine wpAnyH_ready (rs := [23]) (by kernel_rfl) (by simp) (AllReadyH.cons (op_of rfl) (fun K hK => ?_) AllReadyH.nil)
            go_simp
            refine hK.out _ _ HBS.out (fun hHeld => ?_)
            clear hK K
            try dsimp only [Act.put]
            try simp only [List.setIfInBounds_toArray, List.set_cons_zero, List.set_cons_succ]
            refine wpAnyH_done (by kernel_rfl) ?_ _
            go_wp2_with fail
            go_ret
            exact ⟨rfl, HB8.out.trans (HBS.out.mono HB8.out.size)⟩
          · skip
            go_simp
            refine (refPutText_any g12 A14 ([] ++ xs) n14 c14 s _ HL14.out hc14 HO14.out hwg (by have := HL14.out; have := HL.out; simp at *; omega) (by omega)).mono ?_
            rintro en wn ⟨A16, n16, c16, rfl, hl16, hc16, hown16, hb16, hg16, _⟩
            have HBS := Lib.hid (HBS.out.trans (hb16.mono hg8))
            have HR10 := Lib.hid (HR10.out.apart HF10.out hg16 (own_apart HAT.out hd10 hlk) hle10)
            have hle10 : h10 ≤ wn.heap.size := Nat.le_trans hle10 hg16.size
            have HR16 := Lib.hid (Rb.of_own hown16)
            have HL16 := Lib.hid hl16
            clear hown16 hl16 hb16 hg16
            refine hK.out _ _ HBS.out (fun hHeld => ?_)
            clear hK K
            try dsimp only [Act.put]
            try simp only [List.setIfInBounds_toArray, List.set_cons_zero, List.set_cons_succ]
            refine wpAnyH_ready (rs := [11, 17]) (by kernel_rfl) (by simp) (AllReadyH.cons (op_of rfl) (fun K hK => ?_) (AllReadyH.cons (op_of rfl) (fun K hK => ?_) AllReadyH.nil))
            · skip
              have hcv := conv_bytes _ _ _ _ _ c10 HR10.out HL10.out
              go_simp
              clear hcv
              refine hK.out _ _ HBS.out (fun hHeld => ?_)
              clear hK K
              try dsimp only [Act.put]
              try simp only [List.setIfInBounds_toArray, List.set_cons_zero, List.set_cons_succ]
              refine wpAnyH_ready (rs := [17]) (by kernel_rfl) (by simp) (AllReadyH.cons (op_of rfl) (fun K hK => ?_) AllReadyH.nil)
              have hcv := conv_bytes _ _ _ _ _ c16 HR16.out HL16.out
              go_simp
              clear hcv
              refine hK.out _ _ HBS.out (fun hHeld => ?_)
              clear hK K
              try dsimp only [Act.put]
              try simp only [List.setIfInBounds_toArray, List.set_cons_zero, List.set_cons_succ]
              refine wpAnyH_take (i := 18) (v := ?_) (op_of rfl) (by kernel_rfl) (by kernel_rfl) (by kernel_rfl) (fun _ _ _ h => h) (Or.inl ⟨by rfl, fun W hS => ?_⟩) (by assumption) ?_
              rotate_left
              · dsimp only at hS
                go_simp
                try with_reducible rfl
              try dsimp only [Act.put]
              try simp only [List.setIfInBounds_toArray, List.set_cons_zero, List.set_cons_succ]
              refine wpAnyH_take (i := 19) (v := ?_) (op_of rfl) (by kernel_rfl) (by kernel_rfl) (by kernel_rfl) (fun _ _ _ h => h) (Or.inl ⟨by rfl, fun W hS => ?_⟩) (by assumption) ?_
              rotate_left
              · dsimp only at hS
                go_simp
                try with_reducible rfl
              try dsimp only [Act.put]
              try simp only [List.setIfInBounds_toArray, List.set_cons_zero, List.set_cons_succ]
              refine wpAnyH_take (i := 20) (v := ?_) (op_of rfl) (by kernel_rfl) (by kernel_rfl) (by kernel_rfl) (fun _ _ _ h => h) (Or.inl ⟨by rfl, fun W hS => ?_⟩) (by assumption) ?_
              rotate_left
              · dsimp only at hS
                go_simp
                try with_reducible rfl
              try dsimp only [Act.put]
              try simp only [List.setIfInBounds_toArray, List.set_cons_zero, List.set_cons_succ]
              refine wpAnyH_ready (rs := [21]) (by kernel_rfl) (by simp) (AllReadyH.cons (op_of rfl) (fun K hK => ?_) AllReadyH.nil)
              go_simp
              refine (alive5_any _).mono ?_
              rintro en wn ⟨rfl, hb⟩
              have HBS := Lib.hid (HBS.out.trans (hb.mono HBS.out.size))
              clear hb
              refine hK.out _ _ HBS.out (fun hHeld => ?_)
              clear hK K
              try dsimp only [Act.put]
              try simp only [List.setIfInBounds_toArray, List.set_cons_zero, List.set_cons_succ]
              refine wpAnyH_take (i := 22) (v := ?_) (op_of rfl) (by kernel_rfl) (by kernel_rfl) (by kernel_rfl) (fun _ _ _ h => h) (Or.inl ⟨by rfl, fun W hS => ?_⟩) (by assumption) ?_
              rotate_left
              · dsimp only at hS
                go_simp
                try with_reducible rfl
              try dsimp only [Act.put]
              try simp only [List.setIfInBounds_toArray, List.set_cons_zero, List.set_cons_succ]
              refine wpAnyH_ready (rs := [23]) (by kernel_rfl) (by simp) (AllReadyH.cons (op_of rfl) (fun K hK => ?_) AllReadyH.nil)
              go_simp
              refine hK.out _ _ HBS.out (fun hHeld => ?_)
              clear hK K
              try dsimp only [Act.put]
              try simp only [List.setIfInBounds_toArray, List.set_cons_zero, List.set_cons_succ]
              refine wpAnyH_done (by kernel_rfl) ?_ _
              go_wp2_with fail
              go_ret
              exact ⟨rfl, HB8.out.trans (HBS.out.mono HB8.out.size)⟩
            · skip
              have hcv := conv_bytes _ _ _ _ _ c16 HR16.out HL16.out
              go_simp
              clear hcv
              refine hK.out _ _ HBS.out (fun hHeld => ?_)
              clear hK K
              try dsimp only [Act.put]
              try simp only [List.setIfInBounds_toArray, List.set_cons_zero, List.set_cons_succ]
              refine wpAnyH_ready (rs := [11]) (by kernel_rfl) (by simp) (AllReadyH.cons (op_of rfl) (fun K hK => ?_) AllReadyH.nil)
              have hcv := conv_bytes _ _ _ _ _ c10 HR10.out HL10.out
              go_simp
              clear hcv
              refine hK.out _ _ HBS.out (fun hHeld => ?_)
              clear hK K
              try dsimp only [Act.put]
              try simp only [List.setIfInBounds_toArray, List.set_cons_zero, List.set_cons_succ]
              refine wpAnyH_take (i := 18) (v := ?_) (op_of rfl) (by kernel_rfl) (by kernel_rfl) (by kernel_rfl) (fun _ _ _ h => h) (Or.inl ⟨by rfl, fun W hS => ?_⟩) (by assumption) ?_
              rotate_left
              · dsimp only at hS
                go_simp
                try with_reducible rfl
              try dsimp only [Act.put]
              try simp only [List.setIfInBounds_toArray, List.set_cons_zero, List.set_cons_succ]
              refine wpAnyH_take (i := 19) (v := ?_) (op_of rfl) (by kernel_rfl) (by kernel_rfl) (by kernel_rfl) (fun _ _ _ h => h) (Or.inl ⟨by rfl, fun W hS => ?_⟩) (by assumption) ?_
              rotate_left
              · dsimp only at hS
                go_simp
                try with_reducible rfl
              try dsimp only [Act.put]
              try simp only [List.setIfInBounds_toArray, List.set_cons_zero, List.set_cons_succ]
              refine wpAnyH_take (i := 20) (v := ?_) (op_of rfl) (by kernel_rfl) (by kernel_rfl) (by kernel_rfl) (fun _ _ _ h => h) (Or.inl ⟨by rfl, fun W hS => ?_⟩) (by assumption) ?_
              rotate_left
              · dsimp only at hS
                go_simp
                try with_reducible rfl
              try dsimp only [Act.put]
              try simp only [List.setIfInBounds_toArray, List.set_cons_zero, List.set_cons_succ]
              refine wpAnyH_ready (rs := [21]) (by kernel_rfl) (by simp) (AllReadyH.cons (op_of rfl) (fun K hK => ?_) AllReadyH.nil)
              go_simp
              refine (alive5_any _).mono ?_
              rintro en wn ⟨rfl, hb⟩
              have HBS := Lib.hid (HBS.out.trans (hb.mono HBS.out.size))
              clear hb
              refine hK.out _ _ HBS.out (fun hHeld => ?_)
              clear hK K
              try dsimp only [Act.put]
              try simp only [List.setIfInBounds_toArray, List.set_cons_zero, List.set_cons_succ]
              refine wpAnyH_take (i := 22) (v := ?_) (op_of rfl) (by kernel_rfl) (by kernel_rfl) (by kernel_rfl) (fun _ _ _ h => h) (Or.inl ⟨by rfl, fun W hS => ?_⟩) (by assumption) ?_
              rotate_left
              · dsimp only at hS
                go_simp
                try with_reducible rfl
              try dsimp only [Act.put]
              try simp only [List.setIfInBounds_toArray, List.set_cons_zero, List.set_cons_succ]
              refine wpAnyH_ready (rs := [23]) (by kernel_rfl) (by simp) (AllReadyH.cons (op_of rfl) (fun K hK => ?_) AllReadyH.nil)
              go_simp
              refine hK.out _ _ HBS.out (fun hHeld => ?_)
              clear hK K
              try dsimp only [Act.put]
              try simp only [List.setIfInBounds_toArray, List.set_cons_zero, List.set_cons_succ]
              refine wpAnyH_done (by kernel_rfl) ?_ _
              go_wp2_with fail
              go_ret
              exact ⟨rfl, HB8.out.trans (HBS.out.mono HB8.out.size)⟩
end Go.Proofs.Ytbogejpjnbdfcaa
