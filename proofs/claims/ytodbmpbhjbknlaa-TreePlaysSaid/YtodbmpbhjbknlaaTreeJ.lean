/-
  A tree of sums, and the law's own list beside it: places are added; weights are laid.
-/
import Derived.Test.YtodbmpbhjbknlaaTreeI
namespace Go.Proofs.Ytodbmpbhjbknlaa
open Go.RowKit
set_option maxRecDepth 100000

theorem more10_next {xs : List Nat} {k : Nat} (h : xs.length ≤ k) : more10 xs (k + 1) = more10 xs k ++ [0] := by
  unfold more10
  rw [show k + 1 - xs.length = (k - xs.length) + 1 by omega, List.replicate_succ', ← List.append_assoc]
theorem more10_self (xs : List Nat) : more10 xs xs.length = xs := by simp [more10]
/-- A slice's length (a loop's measure). -/
def lenV10 : Value → Nat | .slice _ n _ => n | _ => 0
/-- A row of one's own that becomes longer, beside a tree. -/
structure Lo10 (L : Nat) (w : World) (g n s : Nat) (ys xs : List Nat) (A : Option Addr) (k c : Nat) : Prop where
  tree : ∃ S, Tr w g n s S ∧ Good10 S n ys
  own : w.ownsRow L 30 1 (.slice A k c) k (wds (more10 xs k))
  room : k ≤ c
  base : L ≤ g
section
variable {L g n s k c : Nat} {w w' : World} {ys xs : List Nat} {A : Option Addr}
theorem Lo10.ne (h : Lo10 L w g n s ys xs A k c) : (Value.slice A k c).ownBlock ≠ some g := by
  obtain ⟨S, ⟨cs, h1, _⟩, _⟩ := h.tree
  exact own7_ne h.own h1 tree_types10
theorem Lo10.below (h : Lo10 L w g n s ys xs A k c) (hb : Below w.heap.size w w') : Lo10 L w' g n s ys xs A k c := by
  obtain ⟨S, h1, h2⟩ := h.tree
  exact ⟨⟨S, h1.below hb, h2⟩, own7_keep h.own hb, h.room, h.base⟩
theorem Lo10.next (h : Lo10 L w g n s ys xs A k c) (hk : xs.length ≤ k) (hg : w.grownBy w' (Value.slice A k c).ownBlock) {A' : Option Addr} {c' : Nat} (hc : k + 1 ≤ c') (hown : w'.ownsRow L 30 1 (.slice A' (k + 1) c') (k + 1) (wds (more10 xs k) ++ wds [0])) :
    Lo10 L w' g n s ys xs A' (k + 1) c' := by
  obtain ⟨S, h1, h2⟩ := h.tree
  refine ⟨⟨S, h1.grown hg (fun e => h.ne e.symm), h2⟩, ?_, hc, h.base⟩
  rw [more10_next hk, wds_append]
  exact hown
theorem Lo10.step (h : Lo10 L w g n s ys xs A k c) (hL : L ≤ w.heap.size) (hg : w.grownBy w' (Value.slice A k c).ownBlock) : Below L w w' := (Below.refl L w).grown hg hL (fun j hj => (h.own.lt j hj).1)
end

theorem lgrow10_no {L g n s c : Nat} {xs : List Nat} {A : Option Addr} (m : Int) (w : World) (h : Pl10 L w g n s xs A c) (hm : m < (n : Int) ∨ 4096 < m) :
    Calls Try.prog 9 #[.pointer (some ⟨g, 0, none⟩), .slice A n c, .int .i64 m] w fun e w' => e = .returned (.tuple #[.slice A n c, .bool true]) ∧ w' = w := by
  have HG : Hid (Calls Try.prog 14 #[.pointer (some ⟨g, 0, none⟩), .int .i64 m] w fun e w' => e = .returned (.int .i64 1) ∧ w' = w) := Lib.hid (by
    obtain ⟨S, h1, h2⟩ := h.tree
    exact grow10_no m w h1 hm)
  clear h
  by_cases h1 : m < (n : Int)
  · clear hm
    go_enter Try.func9, Try.ntmps9
    go_wp2_with fail
    refine HG.out.mono ?_
    rintro e w1 ⟨rfl, rfl⟩
    go_wp2_with fail
    go_ret2
    exact ⟨rfl, rfl⟩
  · have h2 : 4096 < m := by omega
    clear hm
    go_enter Try.func9, Try.ntmps9
    go_wp2_with fail
    refine HG.out.mono ?_
    rintro e w1 ⟨rfl, rfl⟩
    go_wp2_with fail
    go_ret2
    exact ⟨rfl, rfl⟩

set_option maxHeartbeats 2000000 in
theorem lgrow10_ok {L g n s c m : Nat} {xs : List Nat} {A : Option Addr} (w : World) (h : Pl10 L w g n s xs A c) (hL : L ≤ w.heap.size) (hm : n ≤ m) (hm2 : m ≤ 400) :
    Calls Try.prog 9 #[.pointer (some ⟨g, 0, none⟩), .slice A n c, .int .i64 (m : Int)] w fun e w' =>
      ∃ A' c', e = .returned (.tuple #[.slice A' m c', .bool true]) ∧ Pl10 L w' g m s (more10 xs m) A' c' ∧ Bk10 L g (Value.slice A n c).ownBlock w w' := by
  have HG : Hid (Calls Try.prog 14 #[.pointer (some ⟨g, 0, none⟩), .int .i64 (m : Int)] w fun e w' => e = .returned (.int .i64 0) ∧ (∃ S', Tr w' g m s S' ∧ Good10 S' m (more10 xs m)) ∧ w.grownBy w' (some g)) := Lib.hid (by
    obtain ⟨S, h1, h2⟩ := h.tree
    exact grow10_ok m w h1 h2 hm (by omega))
  have HP := Lib.hid h
  have HXL := Lib.hid h.len
  have hi1 : decide (m < n) = false := decide_eq_false (by omega)
  have hi2 : decide (4096 < (m : Int)) = false := decide_eq_false (by omega)
  have hi3 : ¬ m < n := by omega
  have hi4 : ¬ 4096 < (m : Int) := by omega
  have hc := h.room
  have hLg := h.base
  clear h
  go_enter Try.func9, Try.ntmps9
  go_wp2_with fail
  refine HG.out.mono ?_
  rintro e w1 ⟨rfl, ht1, hb1⟩
  have HB1 : Hid (Bk10 L g (Value.slice A n c).ownBlock w _) := Lib.hid (bk_row hL hb1 hLg)
  have hs1 := hb1.size
  have HLo : Hid (Lo10 L w1 g m s (more10 xs m) xs A n c) := Lib.hid ⟨ht1, by
    have := HP.out.turn hb1
    have e := more10_self xs
    rw [HXL.out] at e
    rw [e]
    exact this, hc, hLg⟩
  clear HG ht1 hb1 HP
  go_wp2_with fail
  go_loopw [1] (fun lv wr => ∃ (A2 : Option Addr) (k c2 : Nat), lv = .slice A2 k c2 ∧ n ≤ k ∧ k ≤ m ∧ Hid (Lo10 L wr g m s (more10 xs m) xs A2 k c2) ∧ Hid (Bk10 L g (Value.slice A n c).ownBlock w wr) ∧ Hid (∀ j, (Value.slice A2 k c2).ownBlock = some j → some j = (Value.slice A n c).ownBlock ∨ w.heap.size ≤ j)) (fun lv _ => m - lenV10 lv)
  case atStart => exact ⟨A, n, c, rfl, by omega, hm, HLo, HB1, Lib.hid (fun j hj => .inl hj.symm)⟩
  case round =>
    obtain ⟨A2, k, c2, rfl, hnk, hkm, HLK, HBK, HOB⟩ := hrel
    by_cases ht : k < m
    · have hti : (k : Int) < (m : Int) := by omega
      have hsw := HBK.out.size
      have hsz : L ≤ wr.heap.size := by omega
      have HB2 := Lib.hid (b1' wr (.cells #[.int .u64 0] 30))
      have HL2 := Lib.hid (HLK.out.below HB2.out)
      have HBB := Lib.hid (HBK.out.trans (bk_below hsz HB2.out))
      have hsz2 := HB2.out.size
      have HR := Lib.hid (Rq.lit wr 30 [0])
      clear HLK HBK
      go_wp2_with (at_builtin; go_loud (refine wpList_append_rv _ rfl (.tmp 27) (.tmp 28) 29 rfl L 30 (.int .u64 0) 8 Try.underlying29 info_w8 rfl (by omega) (.slice A2 k c2) k (wds (more10 xs k)) rfl HL2.out.own (wr.heap.size + 1) (some ⟨wr.heap.size, 0, none⟩) 1 (wds [0]) _ rfl rfl HR.out (wds_one [0]) (by omega) (by omega) ?_); intro A' c' w3 hc3 hown3 hg3 hbl3)
      have HL3 := Lib.hid (HL2.out.next (by rw [HXL.out]; exact hnk) hg3 hc3 hown3.out)
      have HB3 := Lib.hid (HBB.out.append hL (fun j hj => ⟨(HL2.out.own.lt j hj).1, HOB.out j hj⟩) hg3)
      have HOB3 : Hid (∀ j, (Value.slice A' (k + 1) c').ownBlock = some j → some j = (Value.slice A n c).ownBlock ∨ w.heap.size ≤ j) := Lib.hid (fun j hj => by
        rcases hbl3 with h3 | h3
        · exact HOB.out j (h3 ▸ hj)
        · rw [h3] at hj
          injection hj with hj
          exact .inr (by omega))
      clear hown3 hg3 hbl3 HL2 HBB HOB
      go_roundw
      case rel => exact ⟨A', k + 1, c', rfl, by omega, by omega, HL3, HB3, HOB3⟩
      case measure => simp [lenV10]; omega
    · obtain rfl : k = m := by omega
      go_wp2_with fail
      go_ret2
      exact ⟨A2, c2, rfl, ⟨HLK.out.tree, HLK.out.own, HLK.out.room, HLK.out.base⟩, HBK.out⟩
/-- A copy of a list, 'append([]uint64{}, given...)'. -/
structure Cp10 (L : Nat) (w : World) (zs : List Nat) (A : Option Addr) (m c : Nat) : Prop where
  own : w.ownsRow L 30 1 (.slice A m c) m (wds zs)
  room : m ≤ c
theorem cp10_done {w w' : World} {zs : List Nat} {A' : Option Addr} {m c' : Nat} (hown : w'.ownsRow w.heap.size 30 1 (.slice A' (0 + m) c') (0 + m) ([] ++ wds zs)) (hc : 0 + m ≤ c') (hg : (w.alloc (.cells #[] 30)).grownBy w' (Value.slice (some ⟨w.heap.size, 0, none⟩) 0 0).ownBlock) :
    Cp10 w.heap.size w' zs A' m c' ∧ Below w.heap.size w w' := by
  rw [List.nil_append, Nat.zero_add] at hown
  rw [Nat.zero_add] at hc
  exact ⟨⟨hown, hc⟩, (b1' w _).grown hg (by simp) (by intro k hk; simp [Value.ownBlock] at hk; omega)⟩

set_option maxHeartbeats 2000000 in
theorem lfill10_range {L g n s c m d : Nat} {xs zs : List Nat} {A B : Option Addr} (w : World) (h : Pl10 L w g n s xs A c) (hL : L ≤ w.heap.size) (hl : zs.length = m) (hr : Rq w L B zs) (hm4 : m ≤ 400) (hm : n < m) :
    Calls Try.prog 10 #[.pointer (some ⟨g, 0, none⟩), .slice A n c, .slice B m d] w fun e w' => e = .returned (.tuple #[.slice A n c, .bool true]) ∧ Pl10 L w' g n s xs A c ∧ Bk10 L g (Value.slice A n c).ownBlock w w' := by
  have HP := Lib.hid h
  have HO := Lib.hid (made7 w w.heap.size (Nat.le_refl _) 30)
  have HR := Lib.hid (Rv.alloc (Rv.more hr hL) (Nat.le_refl _) (.cells #[] 30))
  have HM : Hid ((wds zs).length = m) := Lib.hid (by rw [wds_length]; exact hl)
  have hi : (n : Int) < (m : Int) := by omega
  clear h hl hr
  go_enter Try.func10, Try.ntmps10
  go_wp2_with (at_builtin; go_loud (refine wpList_append_rv _ rfl (.tmp 13) (.tmp 14) 29 rfl w.heap.size 30 (.int .u64 0) 8 Try.underlying29 info_w8 rfl (by omega) (.slice (some ⟨w.heap.size, 0, none⟩) 0 0) 0 [] rfl HO.out w.heap.size B m (wds zs) _ HM.out rfl HR.out (wds_one zs) (by omega) (by simp) ?_); intro A1 c1 w1 hc1 hown1 hg1 hbl1; obtain ⟨hcp, hb1⟩ := cp10_done hown1.out hc1 hg1; have HCP := Lib.hid hcp; have HP1 := Lib.hid (HP.out.below hb1); have HB1 : Hid (Bk10 L g (Value.slice A n c).ownBlock w _) := Lib.hid (bk_below hL hb1); clear hown1 hc1 hg1 hbl1 hcp hb1)
  have HF : Hid (Calls Try.prog 15 #[.pointer (some ⟨g, 0, none⟩), .slice A1 (0 + m) c1] w1 fun e w' => e = .returned (.int .i64 6) ∧ w' = w1) := Lib.hid (by
    obtain ⟨S, h1, h2⟩ := HP1.out.tree
    rw [Nat.zero_add]
    exact fill10_range A1 m c1 w1 h1 hm)
  first | (rw [Nat.zero_add] at HF; refine HF.out.mono ?_) | refine HF.out.mono ?_
  rintro e w2 ⟨rfl, rfl⟩
  go_wp2_with fail
  go_ret2
  exact ⟨rfl, HP1.out, HB1.out⟩
set_option maxHeartbeats 2000000 in
theorem lfill10_over {L g n s c m d : Nat} {xs zs : List Nat} {A B : Option Addr} (w : World) (h : Pl10 L w g n s xs A c) (hL : L ≤ w.heap.size) (hl : zs.length = m) (hr : Rq w L B zs) (hx : ∀ x ∈ zs, x < 18446744073709551616) (hm4 : m ≤ 400) (hm : m ≤ n) (hf : 18446744073709551616 ≤ up9 zs m) :
    Calls Try.prog 10 #[.pointer (some ⟨g, 0, none⟩), .slice A n c, .slice B m d] w fun e w' => e = .returned (.tuple #[.slice A n c, .bool true]) ∧ Pl10 L w' g n s xs A c ∧ Bk10 L g (Value.slice A n c).ownBlock w w' := by
  have HP := Lib.hid h
  have HO := Lib.hid (made7 w w.heap.size (Nat.le_refl _) 30)
  have HR := Lib.hid (Rv.alloc (Rv.more hr hL) (Nat.le_refl _) (.cells #[] 30))
  have HR0 := Lib.hid hr
  have HM : Hid ((wds zs).length = m) := Lib.hid (by rw [wds_length]; exact hl)
  have HZL := Lib.hid hl
  have HX := Lib.hid hx
  have HFF := Lib.hid hf
  have hi : ¬ (n : Int) < (m : Int) := by omega
  clear h hl hr hx hf
  go_enter Try.func10, Try.ntmps10
  go_wp2_with (at_builtin; go_loud (refine wpList_append_rv _ rfl (.tmp 13) (.tmp 14) 29 rfl w.heap.size 30 (.int .u64 0) 8 Try.underlying29 info_w8 rfl (by omega) (.slice (some ⟨w.heap.size, 0, none⟩) 0 0) 0 [] rfl HO.out w.heap.size B m (wds zs) _ HM.out rfl HR.out (wds_one zs) (by omega) (by simp) ?_); intro A1 c1 w1 hc1 hown1 hg1 hbl1; obtain ⟨hcp, hb1⟩ := cp10_done hown1.out hc1 hg1; have HCP := Lib.hid hcp; have HP1 := Lib.hid (HP.out.below hb1); have HR1 := Lib.hid (Rv.below HR0.out (hb1.mono hL) (Nat.le_refl _)); have hs1 := hb1.size; have HB1 : Hid (Bk10 L g (Value.slice A n c).ownBlock w _) := Lib.hid (bk_below hL hb1); clear hown1 hc1 hg1 hbl1 hcp hb1)
  have HF : Hid (Calls Try.prog 15 #[.pointer (some ⟨g, 0, none⟩), .slice A1 (0 + m) c1] w1 fun e w' => e = .returned (.int .i64 10) ∧ w' = w1) := Lib.hid (by
    obtain ⟨S, h1, h2⟩ := HP1.out.tree
    rw [Nat.zero_add]
    exact fill10_over A1 zs m c1 w1 h1 hm h2.many HZL.out (Rq.of_own HCP.out.own) HX.out HFF.out)
  first | (rw [Nat.zero_add] at HF; refine HF.out.mono ?_) | refine HF.out.mono ?_
  rintro e w2 ⟨rfl, rfl⟩
  have HT := rtotal_any B zs m d w2 HZL.out (Rv.more HR1.out (by omega)) HX.out (by omega)
  rw [fw_out HFF.out, fb_out HFF.out] at HT
  have HT2 := Lib.hid HT
  clear HT HF
  go_wp2_with fail
  refine HT2.out.mono ?_
  rintro e w3 ⟨rfl, hb3⟩
  have HP3 := Lib.hid (HP1.out.below hb3)
  have HB3 := Lib.hid (HB1.out.trans (bk_below (show L ≤ w2.heap.size by omega) hb3))
  clear hb3 HT2
  go_wp2_with fail
  go_ret2
  exact ⟨rfl, HP3.out, HB3.out⟩

set_option maxHeartbeats 4000000 in
theorem lfill10_ok {L g n s c m d : Nat} {xs zs : List Nat} {A B : Option Addr} (w : World) (h : Pl10 L w g n s xs A c) (hL : L ≤ w.heap.size) (hl : zs.length = m) (hr : Rq w L B zs) (hx : ∀ x ∈ zs, x < 18446744073709551616) (hn4 : n ≤ 400) (hm : m ≤ n) (hf : up9 zs m < 18446744073709551616) :
    Calls Try.prog 10 #[.pointer (some ⟨g, 0, none⟩), .slice A n c, .slice B m d] w fun e w' => ∃ A' c', e = .returned (.tuple #[.slice A' n c', .bool true]) ∧ Pl10 L w' g n s (more10 zs n) A' c' ∧ Bk10 L g (Value.slice A n c).ownBlock w w' := by
  have HP := Lib.hid h
  have HO := Lib.hid (made7 w w.heap.size (Nat.le_refl _) 30)
  have HR := Lib.hid (Rv.alloc (Rv.more hr hL) (Nat.le_refl _) (.cells #[] 30))
  have HR0 := Lib.hid hr
  have HM : Hid ((wds zs).length = m) := Lib.hid (by rw [wds_length]; exact hl)
  have HZL := Lib.hid hl
  have HX := Lib.hid hx
  have HFF := Lib.hid hf
  have hLg := h.base
  have hi1 : decide (n < m) = false := decide_eq_false (by omega)
  have hi2 : ¬ n < m := by omega
  have hi : ¬ (n : Int) < (m : Int) := by omega
  clear h hl hr hx hf
  go_enter Try.func10, Try.ntmps10
  go_wp2_with (at_builtin; go_loud (refine wpList_append_rv _ rfl (.tmp 13) (.tmp 14) 29 rfl w.heap.size 30 (.int .u64 0) 8 Try.underlying29 info_w8 rfl (by omega) (.slice (some ⟨w.heap.size, 0, none⟩) 0 0) 0 [] rfl HO.out w.heap.size B m (wds zs) _ HM.out rfl HR.out (wds_one zs) (by omega) (by simp) ?_); intro A1 c1 w1 hc1 hown1 hg1 hbl1; obtain ⟨hcp, hb1⟩ := cp10_done hown1.out hc1 hg1; have HCP := Lib.hid hcp; have HP1 := Lib.hid (HP.out.below hb1); have HR1 := Lib.hid (Rv.below HR0.out (hb1.mono hL) (Nat.le_refl _)); have hs1 := hb1.size; have HB1 : Hid (Bk10 L g (Value.slice A n c).ownBlock w _) := Lib.hid (bk_below hL hb1); clear hown1 hc1 hg1 hbl1 hcp hb1)
  have HF : Hid (Calls Try.prog 15 #[.pointer (some ⟨g, 0, none⟩), .slice A1 (0 + m) c1] w1 fun e w' => e = .returned (.int .i64 0) ∧ (∃ S', Tr w' g n s S' ∧ Good10 S' n (more10 zs n)) ∧ w1.grownBy w' (some g)) := Lib.hid (by
    obtain ⟨S, h1, h2⟩ := HP1.out.tree
    rw [Nat.zero_add]
    exact fill10_ok A1 zs m c1 w1 h1 h2 hm HZL.out (Rq.of_own HCP.out.own) HX.out HFF.out)
  first | (rw [Nat.zero_add] at HF; refine HF.out.mono ?_) | refine HF.out.mono ?_
  rintro e w2 ⟨rfl, ht2, hb2⟩
  have hb2L := below_row10 (L := L) (by omega) hb2 hLg
  have HT2 := Lib.hid ht2
  have HR2 := Lib.hid (Rv.below HR1.out hb2L (Nat.le_refl _))
  have HB2 := Lib.hid (HB1.out.trans (bk_row (by omega) hb2 hLg))
  have hs2 := hb2.size
  have HTO := rtotal_any B zs m d w2 HZL.out (Rv.more HR2.out (by omega)) HX.out (by omega)
  rw [fw_in HFF.out, fb_in HFF.out] at HTO
  have HTO2 := Lib.hid HTO
  clear ht2 hb2 hb2L HTO HF HB1 HR1 HCP HP1
  go_wp2_with fail
  refine HTO2.out.mono ?_
  rintro e w3 ⟨rfl, hb3⟩
  have hb3L := hb3.mono (show L ≤ w2.heap.size by omega)
  have HT3 : Hid (∃ S', Tr w3 g n s S' ∧ Good10 S' n (more10 zs n)) := Lib.hid (by
    obtain ⟨S', a1, a2⟩ := HT2.out
    exact ⟨S', a1.below hb3, a2⟩)
  have hR3 := Rv.below HR2.out hb3L (Nat.le_refl _)
  have HB3 := Lib.hid (HB2.out.trans (bk_below (show L ≤ w2.heap.size by omega) hb3))
  have hs3 := hb3.size
  have HO3 := Lib.hid (made7 w3 w3.heap.size (Nat.le_refl _) 30)
  have HR3 := Lib.hid (Rv.alloc (Rv.more hR3 (show L ≤ w3.heap.size by omega)) (Nat.le_refl _) (.cells #[] 30))
  clear hb3 hb3L HTO2 HT2 HR2 HB2 hR3
  go_wp2_with (at_builtin; go_loud (refine wpList_append_rv _ rfl (.tmp 35) (.tmp 36) 29 rfl w3.heap.size 30 (.int .u64 0) 8 Try.underlying29 info_w8 rfl (by omega) (.slice (some ⟨w3.heap.size, 0, none⟩) 0 0) 0 [] rfl HO3.out w3.heap.size B m (wds zs) _ HM.out rfl HR3.out (wds_one zs) (by omega) (by simp) ?_); intro A4 c4 w4 hc4 hown4 hg4 hbl4)
  obtain ⟨hcp4, hb4⟩ := cp10_done hown4.out hc4 hg4
  have HB4 := Lib.hid (HB3.out.trans (bk_below (show L ≤ w3.heap.size by omega) hb4))
  have hs4 := hb4.size
  have HLo : Hid (Lo10 L w4 g n s (more10 zs n) zs A4 m c4) := Lib.hid ⟨by
    obtain ⟨S', a1, a2⟩ := HT3.out
    exact ⟨S', a1.below hb4, a2⟩, by
    have e := more10_self zs
    rw [HZL.out] at e
    rw [e]
    exact own7_base hcp4.own (by omega), hcp4.room, hLg⟩
  have HOB4 : Hid (∀ j, (Value.slice A4 m c4).ownBlock = some j → some j = (Value.slice A n c).ownBlock ∨ w.heap.size ≤ j) := Lib.hid (fun j hj => .inr (by
    have := (hcp4.own.lt j hj).1
    omega))
  rw [Nat.zero_add] at hc4
  clear hown4 hg4 hbl4 hcp4 hb4 HO3 HR3 HT3 HB3
  go_loopw [11] (fun lv wr => ∃ (A2 : Option Addr) (k c2 : Nat), lv = .slice A2 k c2 ∧ m ≤ k ∧ k ≤ n ∧ Hid (Lo10 L wr g n s (more10 zs n) zs A2 k c2) ∧ Hid (Bk10 L g (Value.slice A n c).ownBlock w wr) ∧ Hid (∀ j, (Value.slice A2 k c2).ownBlock = some j → some j = (Value.slice A n c).ownBlock ∨ w.heap.size ≤ j)) (fun lv _ => n - lenV10 lv)
  case atStart => exact ⟨A4, m, c4, by first | rfl | simp, by omega, hm, HLo, HB4, HOB4⟩
  case round =>
    obtain ⟨A2, k, c2, rfl, hnk, hkm, HLK, HBK, HOB⟩ := hrel
    by_cases ht : k < n
    · have hti : (k : Int) < (n : Int) := by omega
      have hsw := HBK.out.size
      have hsz : L ≤ wr.heap.size := by omega
      have HB5 := Lib.hid (b1' wr (.cells #[.int .u64 0] 30))
      have HL5 := Lib.hid (HLK.out.below HB5.out)
      have HBB := Lib.hid (HBK.out.trans (bk_below hsz HB5.out))
      have hsz2 := HB5.out.size
      have HR5 := Lib.hid (Rq.lit wr 30 [0])
      clear HLK HBK
      go_wp2_with (at_builtin; go_loud (refine wpList_append_rv _ rfl (.tmp 43) (.tmp 44) 29 rfl L 30 (.int .u64 0) 8 Try.underlying29 info_w8 rfl (by omega) (.slice A2 k c2) k (wds (more10 zs k)) rfl HL5.out.own (wr.heap.size + 1) (some ⟨wr.heap.size, 0, none⟩) 1 (wds [0]) _ rfl rfl HR5.out (wds_one [0]) (by omega) (by omega) ?_); intro A' c' w6 hc6 hown6 hg6 hbl6)
      have HL6 := Lib.hid (HL5.out.next (by rw [HZL.out]; exact hnk) hg6 hc6 hown6.out)
      have HB6 := Lib.hid (HBB.out.append hL (fun j hj => ⟨(HL5.out.own.lt j hj).1, HOB.out j hj⟩) hg6)
      have HOB6 : Hid (∀ j, (Value.slice A' (k + 1) c').ownBlock = some j → some j = (Value.slice A n c).ownBlock ∨ w.heap.size ≤ j) := Lib.hid (fun j hj => by
        rcases hbl6 with h3 | h3
        · exact HOB.out j (h3 ▸ hj)
        · rw [h3] at hj
          injection hj with hj
          exact .inr (by omega))
      clear hown6 hg6 hbl6 HL5 HBB HOB
      go_roundw
      case rel => first | exact ⟨A', k + 1, c', rfl, by omega, by omega, HL6, HB6, HOB6⟩ | ((repeat apply Exists.intro); exact ⟨⟨A', k + 1, c', rfl, by omega, by omega, HL6, HB6, HOB6⟩, rfl⟩)
      case measure => simp [lenV10]; omega
    · obtain rfl : k = n := by omega
      go_wp2_with fail
      go_ret2
      exact ⟨A2, c2, rfl, ⟨HLK.out.tree, HLK.out.own, HLK.out.room, HLK.out.base⟩, HBK.out⟩
end Go.Proofs.Ytodbmpbhjbknlaa
