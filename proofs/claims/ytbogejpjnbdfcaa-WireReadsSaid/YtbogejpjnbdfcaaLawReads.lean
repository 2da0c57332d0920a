/-
  What any calls read of any bytes, and where the reader stands, is the document's; what is done to the bytes later does not show: the walk.
-/
import Derived.Test.YtbogejpjnbdfcaaWireI
import Derived.Test.YtbogejpjnbdfcaaRowC
namespace Go.Proofs.Ytbogejpjnbdfcaa
open Go.RowKit
set_option maxRecDepth 100000

/-- The program's reader, and that its bytes lie from block L on. -/
def WF (w : World) (L g : Nat) (xs : List UInt8) (e : Int) : Prop :=
  ∃ A n c, Blk w g 51 #[.slice A n c, .int .i64 e] ∧ Rb w g A xs ∧ Fb L A xs ∧ xs.length = n ∧ n ≤ c ∧ n ≤ 1000000
theorem WF.wr {w : World} {L g : Nat} {xs : List UInt8} {e : Int} (k : WF w L g xs e) : WR w g xs e := by
  obtain ⟨A, n, c, h1, h2, h3, h4, h5, h6⟩ := k
  exact ⟨A, n, c, h1, h2, h4, h5, h6⟩
theorem WF.below {w w' : World} {L g : Nat} {xs : List UInt8} {e : Int} (k : WF w L g xs e) (hg : Below w.heap.size w w') : WF w' L g xs e := by
  obtain ⟨A, n, c, h1, h2, h3, h4, h5⟩ := k
  exact ⟨A, n, c, h1.below hg h1.lt, h2.below hg (by have := h1.lt; omega), h3, h4, h5⟩
/-- A block is written that is elder than the bytes. -/
theorem WF.elder {w w' : World} {L g k : Nat} {xs : List UInt8} {e : Int} (h : WF w L g xs e) (hg : w.grownBy w' (some k)) (hk : k < L) (hL : L ≤ g) : WF w' L g xs e := by
  obtain ⟨A, n, c, h1, h2, h3, h4, h5⟩ := h
  refine ⟨A, n, c, h1.grown hg (by simp; omega), fun hx => ?_, h3, h4, h5⟩
  obtain ⟨b, o, e1, e2, e3⟩ := h2 hx
  obtain ⟨b', o', e4, e5⟩ := h3 hx
  rw [e1] at e4
  injection e4 with e4
  injection e4 with e4
  subst e4
  exact ⟨b, o, e1, e2, fun j hj => hg.cell (e3 j hj) (by simp; omega)⟩
set_option maxHeartbeats 1000000 in
theorem newReader_fresh (A : Option Addr) (xs : List UInt8) (n c : Nat) (w : World) (hl : xs.length = n) (hr : Rb w w.heap.size A xs) (hn : n ≤ 1000000) :
    Calls Try.prog 12 #[.slice A n c] w fun e w' => ∃ g, e = .returned (.pointer (some ⟨g, 0, none⟩)) ∧ w.heap.size ≤ g ∧ WF w' w.heap.size g xs 0 ∧ Below w.heap.size w w' := by
  have HC := Lib.hid (clone8_any A xs n c w hl hr hn)
  have hxl : xs.length ≤ 1000000 := by omega
  clear hl hr
  go_enter Try.func12, Try.ntmps12
  go_wp2_with fail
  refine HC.out.mono ?_
  rintro e w1 ⟨A1, n1, c1, rfl, hl1, hc1, hown1, hb1⟩
  have HL1 := Lib.hid hl1
  have HO1 := Lib.hid hown1
  clear hl1 hown1 HC
  go_wp2_with fail
  go_ret
  exact ⟨w1.heap.size, rfl, hb1.size, ⟨A1, n1, c1, Blk.new _ _ _, (Rb.of_own HO1.out).alloc (Nat.le_refl _) _, Fb.of_own HO1.out, HL1.out, hc1, by have := HL1.out; omega⟩, hb1.alloc hb1.size _⟩

theorem reads_long (A B : Option Addr) (n c m d : Nat) (w : World) (hlong : 600 < n ∨ (n ≤ 600 ∧ 60 < m)) :
    Calls Try.prog 4 #[.slice A n c, .slice B m d] w fun e w' => e = .returned (.bool true) ∧ Below w.heap.size w w' := by
  rcases hlong with h | ⟨h, h2⟩
  all_goals
    go_enter Try.func4, Try.ntmps4
    go_wp2_with fail
    refine (alive5_any w).mono ?_
    rintro e w1 ⟨rfl, hb⟩
    go_wp2_with fail
    go_ret
    exact ⟨rfl, hb⟩

theorem wr_lt {w : World} {g : Nat} {xs : List UInt8} {e : Int} (k : WR w g xs e) : g < w.heap.size := by
  obtain ⟨_, _, _, h1, _⟩ := k
  exact h1.lt
/-- Both readers, side by side. -/
def Both (w : World) (L g h : Nat) (full : List UInt8) (wr : World) : Prop :=
  ∃ (p : Nat) (e : Int), WR wr g (full.drop p) e ∧ BR wr L h full p e ∧ Below w.heap.size w wr
theorem Both.below {w : World} {L g h : Nat} {full : List UInt8} {W W' : World} (k : Both w L g h full W) (hb : Below W.heap.size W W') : Both w L g h full W' := by
  obtain ⟨p, e, h1, h2, h3⟩ := k
  exact ⟨p, e, h1.below hb, h2.below hb, h3.trans (hb.mono h3.size)⟩
theorem both_next {w : World} {L g h : Nat} {full xs : List UInt8} {e : Int} {W1 W2 : World} {p' : Nat} (hgL : g < L) (hgh : g < h) (hw : w.heap.size ≤ g) {W : World} (hbl : Below w.heap.size w W) (h1 : WR W1 g xs e) (hg1 : W.grownBy W1 (some g)) (h2 : BR W2 L h full p' e) (hp : full.drop p' = xs) (hg2 : W1.grownBy W2 (some h)) : Both w L g h full W2 := by
  subst hp
  have hb1 := wrote_b hbl hg1 hw hbl.size
  exact ⟨p', e, h1.other hg2 hgh, h2, wrote_b hb1 hg2 (by omega) hb1.size⟩

theorem own_keep {w w' : World} {base : Nat} {e : TypeId} {v : Value} {n : Nat} {xs : List Value} (h : w.ownsRow base e 1 v n xs) (hb : Below w.heap.size w w') : w'.ownsRow base e 1 v n xs := by
  have hlt := h.lt
  obtain ⟨h1, h2⟩ := h
  refine ⟨h1, ?_⟩
  rcases h2 with h2 | ⟨g, cap, cur, rfl, hg, hh, r⟩
  · exact .inl h2
  · exact .inr ⟨g, cap, cur, rfl, hg, by rw [hb.block g (hlt g rfl).2]; exact hh, r⟩
theorem own_some {w : World} {base : Nat} {e : TypeId} {A : Option Addr} {n c : Nat} {xs : List Value} (h : w.ownsRow base e 1 (.slice A n c) n xs) (hn : 0 < n) : ∃ G, A = some ⟨G, 0, none⟩ := by
  rcases h.2 with ⟨_, h2⟩ | ⟨g, cap, cur, hv, _⟩
  · omega
  · injection hv with hv
    exact ⟨g, hv⟩
theorem own_frozen {w : World} {base : Nat} {e : TypeId} {G n c : Nat} {xs : List Value} (h : w.ownsRow base e 1 (.slice (some ⟨G, 0, none⟩) n c) n xs) (k : Nat) : w.frozen? ⟨G, k, none⟩ = false := by
  rcases h.2 with ⟨h1, h2⟩ | ⟨g, cap, cur, hv, _, hh, _⟩
  · injection h1 with h1; cases h1
  · injection hv with hv
    injection hv with hv
    injection hv with hv
    subst hv
    exact Blk.frozen (t := e) (cs := cur) hh k

set_option maxHeartbeats 8000000 in
theorem reads_walk (A B : Option Addr) (xs : List UInt8) (n c m d : Nat) (K T : Nat → Int) (U : Nat → Nat) (w : World) (hl : xs.length = n) (hr : Rb w w.heap.size A xs) (hac : Acts w B m K T U) (hbd : ∀ k, k < m → T k ≤ 9223372036854775807 ∧ U k < 18446744073709551616) (hn : n ≤ 600) (hmm : m ≤ 60) :
    Calls Try.prog 4 #[.slice A n c, .slice B m d] w fun e w' => e = .returned (.bool true) ∧ Below w.heap.size w w' := by
  have HL := Lib.hid hl
  have HR0 := Lib.hid hr
  have HAC := Lib.hid hac
  have HBD := Lib.hid hbd
  have HO := Lib.hid (made8 w w.heap.size (Nat.le_refl _))
  have HR := Lib.hid (hr.alloc (Nat.le_refl _) (.cells #[] 5))
  have HB0 := Lib.hid (b1_ w (.cells #[] 5))
  clear hl hr hac hbd
  go_enter Try.func4, Try.ntmps4
  go_wp2_with (at_builtin; go_loud (refine wpList_append_u8s _ rfl (.tmp 21) (.tmp 22) 22 rfl w.heap.size 5 Try.underlying22 info_b8 (.slice (some ⟨w.heap.size, 0, none⟩) 0 0) [] rfl HO.out w.heap.size A n xs _ HL.out rfl HR.out (by have := HL.out; simp; omega) (by simp) ?_); intro A1 n1 c1 w1 hl1 hc1 hown1 hg1)
  rw [List.nil_append] at hl1 hown1
  have hb1 : Below w.heap.size w w1 := HB0.out.grown hg1 (by simp) (by intro k hk; simp [Value.ownBlock] at hk; omega)
  have HOW1 := hown1
  have HL1 := hl1
  have hn1 : n1 ≤ 600 := by have := HL1.out; have := HL.out; omega
  have HC2 := Lib.hid (newReader_fresh A1 xs n1 c1 w1 hl1.out (Rb.of_own hown1.out) (by omega))
  clear hl1 hown1 hg1 HO HR HB0
  refine HC2.out.mono ?_
  rintro en w2 ⟨g, rfl, hg, hw2, hb2⟩
  have hb12 := hb1.trans (hb2.mono hb1.size)
  have HC3 := Lib.hid (refNew_any A xs n c w2 HL.out ((HR0.out.below hb12 (Nat.le_refl _)).more hb12.size) (by omega))
  have hgs : g < w2.heap.size := by obtain ⟨_, _, _, h1, _⟩ := hw2; exact h1.lt
  have HW2 := Lib.hid hw2
  have HOW2 := Lib.hid (own_keep HOW1.out hb2)
  clear hw2 HC2
  go_wp2_with fail
  refine HC3.out.mono ?_
  rintro en w3 ⟨h, rfl, hh, hw3, hb3⟩
  obtain ⟨L, hLe⟩ : ∃ L, w2.heap.size = L := ⟨_, rfl⟩
  obtain ⟨L1, hL1⟩ : ∃ L, w1.heap.size = L := ⟨_, rfl⟩
  have HB3 := hb12.trans (hb3.mono hb12.size)
  have HW3 := Lib.hid (HW2.out.below hb3)
  have HOW3 := Lib.hid (own_keep HOW2.out hb3)
  have hG1 : ∀ k, (Value.slice A1 n1 c1).ownBlock = some k → k < L1 := fun k hk => by rw [← hL1]; exact (HOW1.out.lt k hk).2
  rw [hLe] at hw3 hgs hh
  rw [hL1] at hg HW3
  have HBR := Lib.hid hw3
  have hw1 : w.heap.size ≤ g := by have := hb1.size; omega
  clear hw3 HOW2 HOW1 HW2 HC3 hb2 hb3 hb12 hb1 hLe hL1
  go_wp2_with fail
  go_loopw [8] (fun i wr => ∃ k : Nat, i = .int .i64 (k : Int) ∧ k ≤ n1 ∧ Hid (WF wr L1 g xs 0) ∧ Hid (BR wr L h xs 0 0) ∧ Below w.heap.size w wr ∧ ∃ zs, Hid (wr.ownsRow w.heap.size 5 1 (.slice A1 n1 c1) n1 zs) ∧ Hid (∀ j, k ≤ j → zs[j]? = (u8s xs)[j]?)) (fun i _ => n1 - (intOf i).toNat)
  case atStart => exact ⟨0, rfl, by omega, HW3, HBR, HB3, _, HOW3, Lib.hid (fun _ _ => rfl)⟩
  case round =>
    obtain ⟨k, rfl, hk, HWK, HBK, hbl, zs, HOK, HZ⟩ := hrel
    by_cases ht : k < n1
    · have hz := HZ.out k (Nat.le_refl _)
      rw [u8s_get (by have := HL1.out; omega)] at hz
      obtain ⟨G, hG⟩ := own_some HOK.out (show 0 < n1 by omega)
      obtain rfl := hG
      have hcell := HOK.out.cells (g := G) rfl k _ hz
      have hGl : G < L1 := hG1 G rfl
      have hGw : w.heap.size ≤ G := (HOK.out.lt G rfl).1
      have hcell2 : wr.cell? ⟨G, k, none⟩ = some (.int .u8 ((at8 xs k : Nat) : Int)) := by
        unfold Addr.add at hcell
        split at hcell
        · next h0 => subst h0; exact hcell
        · simpa using hcell
      have hfro : wr.frozen? ⟨G, k, none⟩ = false := own_frozen HOK.out k
      have hi0 : (0 : Int) ≤ (k : Int) := by omega
      have hi1 : (k : Int) < (n1 : Int) := by omega
      clear hcell hz
      go_wp2_with fail
      go_roundw
      case rel =>
        have hs := fun u => HOK.out.stored k u
        exact ⟨k + 1, by go_num, by omega, Lib.hid (HWK.out.elder (hs _).2 hGl (by omega)), Lib.hid (HBK.out.other (hs _).2 (by omega) (by omega)), wrote_b hbl (hs _).2 hGw hbl.size, _, Lib.hid (hs _).1, Lib.hid (fun j hj => by rw [List.getElem?_set_ne (by omega)]; exact HZ.out j (by omega))⟩
      case measure => simp [intOf]; omega
    · have hbo : Both w L g h xs wr := ⟨0, 0, by simpa using HWK.out.wr, HBK.out, hbl⟩
      have HBO := Lib.hid hbo
      have hgh : g < h := by omega
      clear hbo HZ HOK HWK HBK hbl HOW3 HW3 HBR HB3 hG1
      go_wp2_with fail
      go_loopw [9] (fun i wr => ∃ k : Nat, i = .int .i64 (k : Int) ∧ k ≤ m ∧ Hid (Both w L g h xs wr)) (fun i _ => m - (intOf i).toNat)
      case atStart => exact ⟨0, rfl, by omega, HBO⟩
      case round =>
        obtain ⟨k, rfl, hk, HBO⟩ := hrel
        by_cases ht : k < m
        · obtain ⟨pp, ee, hwr, hbr, hbl⟩ := HBO.out
          obtain ⟨b, o, hB, hbb, hcs⟩ := (HAC.out.below hbl) (by omega)
          subst hB
          obtain ⟨z0, z1, z2⟩ := hcs k ht
          obtain ⟨hT, hU⟩ := HBD.out k ht
          obtain ⟨kd, hkd⟩ : ∃ x, K k = x := ⟨_, rfl⟩
          obtain ⟨tp, htp⟩ : ∃ x, T k = x := ⟨_, rfl⟩
          obtain ⟨wd, hwd⟩ : ∃ x, U k = x := ⟨_, rfl⟩
          rw [hkd] at z0
          rw [htp] at z1 hT
          rw [hwd] at z2 hU
          have hi0 : (0 : Int) ≤ (k : Int) := by omega
          have hi1 : (k : Int) < (m : Int) := by omega
          have HWR := Lib.hid hwr
          have HBR := Lib.hid hbr
          have HBL := Lib.hid hbl
          clear hcs hkd htp hwd hwr hbr hbl HBO
          have hk5 : kd = 0 ∨ kd = 1 ∨ kd = 2 ∨ kd = 3 ∨ (¬ kd = 0 ∧ ¬ kd = 1 ∧ ¬ kd = 2 ∧ ¬ kd = 3) := by omega
          rcases hk5 with k0 | k0 | k0 | k0 | ⟨k0, k1, k2, k3⟩
          · skip
            subst k0
            go_wp2_with fail
            obtain ⟨ga, hga⟩ : ∃ x, wr.heap.size = x := ⟨_, rfl⟩
            have hgg : g < ga ∧ h < ga := by rw [← hga]; exact ⟨wr_lt HWR.out, HBR.out.lt⟩
            have hba := b1_ wr (.cells #[.int .i64 0, .int .i64 tp, .int .u64 (wd : Int)] 36)
            have hca := (Blk.new wr 36 #[.int .i64 0, .int .i64 tp, .int .u64 (wd : Int)]).cell 2
            obtain ⟨wa, hwa⟩ : ∃ W, wr.alloc (.cells #[.int .i64 0, .int .i64 tp, .int .u64 (wd : Int)] 36) = W := ⟨_, rfl⟩
            rw [hga, hwa] at hca
            rw [hwa] at hba
            rw [hga, hwa]
            have hca : wa.drew.cell? ⟨ga, 2, none⟩ = some (.int .u64 (wd : Int)) := hca
            have hwr1 := (HWR.out.below hba).below ((Below.refl _ _).drew)
            have hbr1 := (HBR.out.below hba).drew
            have HBLd : Hid (Below w.heap.size w wa.drew) := Lib.hid ((HBL.out.trans (hba.mono HBL.out.size)).drew)
            have HN1 := Lib.hid (num_any g _ _ wd wa.drew hwr1 hU)
            have HBR1 := Lib.hid hbr1
            clear hwr1 hbr1 hba hga hwa
            go_region_held3 (fun W => W.cell? ⟨ga, 2, none⟩ = some (.int .u64 (wd : Int)))
              (first | exact hca | assumption)
              (first
                | (go_at_call 14; (with_reducible refine HN1.out.mono ?_); rintro e u1 ⟨rfl, hw1, hg1⟩; have HW1 := Lib.hid hw1; have hS1 := hg1.cell hca (by simp; omega); have HB1 := Lib.hid (HBR1.out.other hg1 hgs (by omega)); have HG1 := Lib.hid hg1; clear hw1 hg1)
                | (go_at_call 15; (with_reducible refine (num5_any L h xs pp ee wd u1 HB1.out hU).mono ?_); rintro e wz ⟨rfl, ⟨p2, hb2, hp2⟩, hg2⟩; have hS2 := hg2.cell hS1 (by simp; omega); have HBO2 := Lib.hid (both_next hgs hgh hw1 HBLd.out HW1.out HG1.out hb2 hp2 hg2); clear hb2 hp2 hg2))
            obtain ⟨p5, e5, hwr5, hbr5, hbl5⟩ := HBO2.out
            have hlr := left_any g _ _ wz.drew (hwr5.below ((Below.refl _ _).drew))
            have HE5 := Lib.hid (err_any g _ _ wz.drew (hwr5.below ((Below.refl _ _).drew)))
            have hbo5 : Both w L g h xs wz.drew := HBO2.out.below ((Below.refl _ _).drew)
            have HBO5 := Lib.hid hbo5
            obtain ⟨A5, n5, c5, y1, y2, y3, y4, y5, y6, y7⟩ := hbr5
            have x0 : wz.drew.cell? ⟨h, 0, none⟩ = some (.slice A5 n5 c5) := y1.cell 0
            have x1 : wz.drew.cell? ⟨h, 1, none⟩ = some (.int .i64 (p5 : Int)) := y1.cell 1
            have x2 : wz.drew.cell? ⟨h, 2, none⟩ = some (.int .i64 e5) := y1.cell 2
            obtain ⟨r5, hr5⟩ : ∃ r, (xs.drop p5).length = r := ⟨_, rfl⟩
            rw [hr5] at hlr
            rw [List.length_drop] at hr5
            have HL5 := Lib.hid hlr
            have hsub2 : ((n5 : Int) - (p5 : Int)) = (r5 : Int) := by omega
            have hsub3 : IntKind.i64.wrap (r5 : Int) = (r5 : Int) := by rw [IntKind.wrap_i64]; omega
            have hself : ((r5 : Int) != (r5 : Int)) = false := by simp
            have hself2 : (e5 != e5) = false := by simp
            clear y1 y2 y3 hwr5 hlr hbo5 hbl5
            go_wp2_with fail
            refine wp_region_held_drew (S := (fun W => W.cell? ⟨h, 0, none⟩ = some (.slice A5 n5 c5) ∧ W.cell? ⟨h, 1, none⟩ = some (.int .i64 (p5 : Int)) ∧ W.cell? ⟨h, 2, none⟩ = some (.int .i64 e5))) (by kernel_rfl) ⟨x0, x1, x2⟩ (fun hHeld => ?_)
            refine wpAnyH_take (i := 0) (v := ?_) (op_of rfl) (by kernel_rfl) (by kernel_rfl) (by kernel_rfl) (fun _ _ _ h => h) (Or.inl ⟨by rfl, fun w hS => ?_⟩) (by assumption) ?_
            rotate_left
            · dsimp only at hS
              go_simp
              try with_reducible rfl
            try dsimp only [Act.put]
            try simp only [List.setIfInBounds_toArray, List.set_cons_zero, List.set_cons_succ]
            refine wpAnyH_take (i := 1) (v := ?_) (op_of rfl) (by kernel_rfl) (by kernel_rfl) (by kernel_rfl) (fun _ _ _ h => h) (Or.inl ⟨by rfl, fun w hS => ?_⟩) (by assumption) ?_
            rotate_left
            · dsimp only at hS
              go_simp
              try with_reducible rfl
            try dsimp only [Act.put]
            try simp only [List.setIfInBounds_toArray, List.set_cons_zero, List.set_cons_succ]
            refine wpAnyH_take (i := 2) (v := ?_) (op_of rfl) (by kernel_rfl) (by kernel_rfl) (by kernel_rfl) (fun _ _ _ h => h) (Or.inl ⟨by rfl, fun w hS => ?_⟩) (by assumption) ?_
            rotate_left
            · dsimp only at hS
              go_simp
              try with_reducible rfl
            try dsimp only [Act.put]
            try simp only [List.setIfInBounds_toArray, List.set_cons_zero, List.set_cons_succ]
            refine wpAnyH_take (i := 3) (v := ?_) (op_of rfl) (by kernel_rfl) (by kernel_rfl) (by kernel_rfl) (fun _ _ _ h => h) (Or.inl ⟨by rfl, fun w hS => ?_⟩) (by assumption) ?_
            rotate_left
            · dsimp only at hS
              go_simp
              try with_reducible rfl
            try dsimp only [Act.put]
            try simp only [List.setIfInBounds_toArray, List.set_cons_zero, List.set_cons_succ]
            refine wpAnyH_take (i := 5) (v := ?_) (op_of rfl) (by kernel_rfl) (by kernel_rfl) (by kernel_rfl) (fun _ _ _ h => h) (Or.inl ⟨by rfl, fun w hS => ?_⟩) (by assumption) ?_
            rotate_left
            · dsimp only at hS
              go_simp
              try with_reducible rfl
            try dsimp only [Act.put]
            try simp only [List.setIfInBounds_toArray, List.set_cons_zero, List.set_cons_succ]
            refine wpAnyH_take (i := 6) (v := ?_) (op_of rfl) (by kernel_rfl) (by kernel_rfl) (by kernel_rfl) (fun _ _ _ h => h) (Or.inl ⟨by rfl, fun w hS => ?_⟩) (by assumption) ?_
            rotate_left
            · dsimp only at hS
              go_simp
              try with_reducible rfl
            try dsimp only [Act.put]
            try simp only [List.setIfInBounds_toArray, List.set_cons_zero, List.set_cons_succ]
            refine wpAnyH_take (i := 7) (v := ?_) (op_of rfl) (by kernel_rfl) (by kernel_rfl) (by kernel_rfl) (fun _ _ _ h => h) (Or.inl ⟨by rfl, fun w hS => ?_⟩) (by assumption) ?_
            rotate_left
            · dsimp only at hS
              go_simp
              try with_reducible rfl
            try dsimp only [Act.put]
            try simp only [List.setIfInBounds_toArray, List.set_cons_zero, List.set_cons_succ]
            refine wpAnyH_take (i := 8) (v := ?_) (op_of rfl) (by kernel_rfl) (by kernel_rfl) (by kernel_rfl) (fun _ _ _ h => h) (Or.inl ⟨by rfl, fun w hS => ?_⟩) (by assumption) ?_
            rotate_left
            · dsimp only at hS
              go_simp
              try with_reducible rfl
            try dsimp only [Act.put]
            try simp only [List.setIfInBounds_toArray, List.set_cons_zero, List.set_cons_succ]
            refine wpAnyH_take (i := 9) (v := ?_) (op_of rfl) (by kernel_rfl) (by kernel_rfl) (by kernel_rfl) (fun _ _ _ h => h) (Or.inl ⟨by rfl, fun w hS => ?_⟩) (by assumption) ?_
            rotate_left
            · dsimp only at hS
              go_simp
              try with_reducible rfl
            try dsimp only [Act.put]
            try simp only [List.setIfInBounds_toArray, List.set_cons_zero, List.set_cons_succ]
            refine wpAnyH_take (i := 10) (v := ?_) (op_of rfl) (by kernel_rfl) (by kernel_rfl) (by kernel_rfl) (fun _ _ _ h => h) (Or.inl ⟨by rfl, fun w hS => ?_⟩) (by assumption) ?_
            rotate_left
            · dsimp only at hS
              go_simp
              try with_reducible rfl
            try dsimp only [Act.put]
            try simp only [List.setIfInBounds_toArray, List.set_cons_zero, List.set_cons_succ]
            refine wpAnyH_take (i := 11) (v := ?_) (op_of rfl) (by kernel_rfl) (by kernel_rfl) (by kernel_rfl) (fun _ _ _ h => h) (Or.inl ⟨by rfl, fun w hS => ?_⟩) (by assumption) ?_
            rotate_left
            · dsimp only at hS
              go_simp
              try with_reducible rfl
            try dsimp only [Act.put]
            try simp only [List.setIfInBounds_toArray, List.set_cons_zero, List.set_cons_succ]
            refine wpAnyH_take (i := 12) (v := ?_) (op_of rfl) (by kernel_rfl) (by kernel_rfl) (by kernel_rfl) (fun _ _ _ h => h) (Or.inl ⟨by rfl, fun w hS => ?_⟩) (by assumption) ?_
            rotate_left
            · dsimp only at hS
              go_simp
              try with_reducible rfl
            try dsimp only [Act.put]
            try simp only [List.setIfInBounds_toArray, List.set_cons_zero, List.set_cons_succ]
            refine wpAnyH_take (i := 13) (v := ?_) (op_of rfl) (by kernel_rfl) (by kernel_rfl) (by kernel_rfl) (fun _ _ _ h => h) (Or.inl ⟨by rfl, fun w hS => ?_⟩) (by assumption) ?_
            rotate_left
            · dsimp only at hS
              go_simp
              try with_reducible rfl
            try dsimp only [Act.put]
            try simp only [List.setIfInBounds_toArray, List.set_cons_zero, List.set_cons_succ]
            refine wpAnyH_take (i := 14) (v := ?_) (op_of rfl) (by kernel_rfl) (by kernel_rfl) (by kernel_rfl) (fun _ _ _ h => h) (Or.inl ⟨by rfl, fun w hS => ?_⟩) (by assumption) ?_
            rotate_left
            · dsimp only at hS
              go_simp
              try with_reducible rfl
            try dsimp only [Act.put]
            try simp only [List.setIfInBounds_toArray, List.set_cons_zero, List.set_cons_succ]
            refine wpAnyH_ready (rs := [4]) (by kernel_rfl) (by simp) (AllReadyH.cons (op_of rfl) (fun K hK => ?_) AllReadyH.nil)
            go_simp
            refine HL5.out.mono ?_
            rintro en wq ⟨rfl, rfl⟩
            refine hK.out _ _ (by assumption) (fun hHeld1 => ?_)
            clear hK K
            try dsimp only [Act.put]
            try simp only [List.setIfInBounds_toArray, List.set_cons_zero, List.set_cons_succ]
            refine wpAnyH_take (i := 15) (v := ?_) (op_of rfl) (by kernel_rfl) (by kernel_rfl) (by kernel_rfl) (fun _ _ _ h => h) (Or.inl ⟨by rfl, fun w hS => ?_⟩) (by assumption) ?_
            rotate_left
            · dsimp only at hS
              go_simp
              try with_reducible rfl
            try dsimp only [Act.put]
            try simp only [List.setIfInBounds_toArray, List.set_cons_zero, List.set_cons_succ]
            refine wpAnyH_take (i := 16) (v := ?_) (op_of rfl) (by kernel_rfl) (by kernel_rfl) (by kernel_rfl) (fun _ _ _ h => h) (Or.inl ⟨by rfl, fun w hS => ?_⟩) (by assumption) ?_
            rotate_left
            · dsimp only at hS
              go_simp
              try with_reducible rfl
            try dsimp only [Act.put]
            try simp only [List.setIfInBounds_toArray, List.set_cons_zero, List.set_cons_succ]
            refine wpAnyH_take (i := 17) (v := ?_) (op_of rfl) (by kernel_rfl) (by kernel_rfl) (by kernel_rfl) (fun _ _ _ h => h) (Or.inl ⟨by rfl, fun w hS => ?_⟩) (by assumption) ?_
            rotate_left
            · dsimp only at hS
              go_simp
              try with_reducible rfl
            try dsimp only [Act.put]
            try simp only [List.setIfInBounds_toArray, List.set_cons_zero, List.set_cons_succ]
            refine wpAnyH_take (i := 18) (v := ?_) (op_of rfl) (by kernel_rfl) (by kernel_rfl) (by kernel_rfl) (fun _ _ _ h => h) (Or.inl ⟨by rfl, fun w hS => ?_⟩) (by assumption) ?_
            rotate_left
            · dsimp only at hS
              go_simp
              try with_reducible rfl
            try dsimp only [Act.put]
            try simp only [List.setIfInBounds_toArray, List.set_cons_zero, List.set_cons_succ]
            refine wpAnyH_take (i := 20) (v := ?_) (op_of rfl) (by kernel_rfl) (by kernel_rfl) (by kernel_rfl) (fun _ _ _ h => h) (Or.inl ⟨by rfl, fun w hS => ?_⟩) (by assumption) ?_
            rotate_left
            · dsimp only at hS
              go_simp
              try with_reducible rfl
            try dsimp only [Act.put]
            try simp only [List.setIfInBounds_toArray, List.set_cons_zero, List.set_cons_succ]
            refine wpAnyH_take (i := 21) (v := ?_) (op_of rfl) (by kernel_rfl) (by kernel_rfl) (by kernel_rfl) (fun _ _ _ h => h) (Or.inl ⟨by rfl, fun w hS => ?_⟩) (by assumption) ?_
            rotate_left
            · dsimp only at hS
              go_simp
              try with_reducible rfl
            try dsimp only [Act.put]
            try simp only [List.setIfInBounds_toArray, List.set_cons_zero, List.set_cons_succ]
            refine wpAnyH_take (i := 22) (v := ?_) (op_of rfl) (by kernel_rfl) (by kernel_rfl) (by kernel_rfl) (fun _ _ _ h => h) (Or.inl ⟨by rfl, fun w hS => ?_⟩) (by assumption) ?_
            rotate_left
            · dsimp only at hS
              go_simp
              try with_reducible rfl
            try dsimp only [Act.put]
            try simp only [List.setIfInBounds_toArray, List.set_cons_zero, List.set_cons_succ]
            refine wpAnyH_take (i := 23) (v := ?_) (op_of rfl) (by kernel_rfl) (by kernel_rfl) (by kernel_rfl) (fun _ _ _ h => h) (Or.inl ⟨by rfl, fun w hS => ?_⟩) (by assumption) ?_
            rotate_left
            · dsimp only at hS
              go_simp
              try with_reducible rfl
            try dsimp only [Act.put]
            try simp only [List.setIfInBounds_toArray, List.set_cons_zero, List.set_cons_succ]
            refine wpAnyH_ready (rs := [19]) (by kernel_rfl) (by simp) (AllReadyH.cons (op_of rfl) (fun K hK => ?_) AllReadyH.nil)
            go_simp
            refine HE5.out.mono ?_
            rintro en wq ⟨rfl, rfl⟩
            refine hK.out _ _ (by assumption) (fun hHeld2 => ?_)
            clear hK K
            try dsimp only [Act.put]
            try simp only [List.setIfInBounds_toArray, List.set_cons_zero, List.set_cons_succ]
            refine wpAnyH_take (i := 24) (v := ?_) (op_of rfl) (by kernel_rfl) (by kernel_rfl) (by kernel_rfl) (fun _ _ _ h => h) (Or.inl ⟨by rfl, fun w hS => ?_⟩) (by assumption) ?_
            rotate_left
            · dsimp only at hS
              go_simp
              try with_reducible rfl
            try dsimp only [Act.put]
            try simp only [List.setIfInBounds_toArray, List.set_cons_zero, List.set_cons_succ]
            refine wpAnyH_take (i := 25) (v := ?_) (op_of rfl) (by kernel_rfl) (by kernel_rfl) (by kernel_rfl) (fun _ _ _ h => h) (Or.inl ⟨by rfl, fun w hS => ?_⟩) (by assumption) ?_
            rotate_left
            · dsimp only at hS
              go_simp
              try with_reducible rfl
            try dsimp only [Act.put]
            try simp only [List.setIfInBounds_toArray, List.set_cons_zero, List.set_cons_succ]
            refine wpAnyH_done (by kernel_rfl) ?_ _
            go_wp2_with fail
            go_roundw
            case rel => exact ⟨k + 1, by go_num, by omega, HBO5⟩
            case measure => simp [intOf]; omega
          · skip
            subst k0
            go_wp2_with fail
            obtain ⟨ga, hga⟩ : ∃ x, wr.heap.size = x := ⟨_, rfl⟩
            have hgg : g < ga ∧ h < ga := by rw [← hga]; exact ⟨wr_lt HWR.out, HBR.out.lt⟩
            have hba := b1_ wr (.cells #[.int .i64 1, .int .i64 tp, .int .u64 (wd : Int)] 36)
            have hca := (Blk.new wr 36 #[.int .i64 1, .int .i64 tp, .int .u64 (wd : Int)]).cell 1
            obtain ⟨wa, hwa⟩ : ∃ W, wr.alloc (.cells #[.int .i64 1, .int .i64 tp, .int .u64 (wd : Int)] 36) = W := ⟨_, rfl⟩
            rw [hga, hwa] at hca
            rw [hwa] at hba
            rw [hga, hwa]
            have hca : wa.drew.cell? ⟨ga, 1, none⟩ = some (.int .i64 tp) := hca
            have hwr1 := (HWR.out.below hba).below ((Below.refl _ _).drew)
            have hbr1 := (HBR.out.below hba).drew
            have HBLd : Hid (Below w.heap.size w wa.drew) := Lib.hid ((HBL.out.trans (hba.mono HBL.out.size)).drew)
            have HN1 := Lib.hid (int_any g _ _ tp wa.drew hwr1 hT)
            have HBR1 := Lib.hid hbr1
            clear hwr1 hbr1 hba hga hwa
            go_region_held3 (fun W => W.cell? ⟨ga, 1, none⟩ = some (.int .i64 tp))
              (first | exact hca | assumption)
              (first
                | (go_at_call 16; (with_reducible refine HN1.out.mono ?_); rintro e u1 ⟨rfl, hw1, hg1⟩; have HW1 := Lib.hid hw1; have hS1 := hg1.cell hca (by simp; omega); have HB1 := Lib.hid (HBR1.out.other hg1 hgs (by omega)); have HG1 := Lib.hid hg1; clear hw1 hg1)
                | (go_at_call 17; (with_reducible refine (int5_any L h xs pp ee tp u1 HB1.out hT).mono ?_); rintro e wz ⟨rfl, ⟨p2, hb2, hp2⟩, hg2⟩; have hS2 := hg2.cell hS1 (by simp; omega); have HBO2 := Lib.hid (both_next hgs hgh hw1 HBLd.out HW1.out HG1.out hb2 hp2 hg2); clear hb2 hp2 hg2))
            obtain ⟨p5, e5, hwr5, hbr5, hbl5⟩ := HBO2.out
            have hlr := left_any g _ _ wz.drew (hwr5.below ((Below.refl _ _).drew))
            have HE5 := Lib.hid (err_any g _ _ wz.drew (hwr5.below ((Below.refl _ _).drew)))
            have hbo5 : Both w L g h xs wz.drew := HBO2.out.below ((Below.refl _ _).drew)
            have HBO5 := Lib.hid hbo5
            obtain ⟨A5, n5, c5, y1, y2, y3, y4, y5, y6, y7⟩ := hbr5
            have x0 : wz.drew.cell? ⟨h, 0, none⟩ = some (.slice A5 n5 c5) := y1.cell 0
            have x1 : wz.drew.cell? ⟨h, 1, none⟩ = some (.int .i64 (p5 : Int)) := y1.cell 1
            have x2 : wz.drew.cell? ⟨h, 2, none⟩ = some (.int .i64 e5) := y1.cell 2
            obtain ⟨r5, hr5⟩ : ∃ r, (xs.drop p5).length = r := ⟨_, rfl⟩
            rw [hr5] at hlr
            rw [List.length_drop] at hr5
            have HL5 := Lib.hid hlr
            have hsub2 : ((n5 : Int) - (p5 : Int)) = (r5 : Int) := by omega
            have hsub3 : IntKind.i64.wrap (r5 : Int) = (r5 : Int) := by rw [IntKind.wrap_i64]; omega
            have hself : ((r5 : Int) != (r5 : Int)) = false := by simp
            have hself2 : (e5 != e5) = false := by simp
            clear y1 y2 y3 hwr5 hlr hbo5 hbl5
            go_wp2_with fail
            refine wp_region_held_drew (S := (fun W => W.cell? ⟨h, 0, none⟩ = some (.slice A5 n5 c5) ∧ W.cell? ⟨h, 1, none⟩ = some (.int .i64 (p5 : Int)) ∧ W.cell? ⟨h, 2, none⟩ = some (.int .i64 e5))) (by kernel_rfl) ⟨x0, x1, x2⟩ (fun hHeld => ?_)
            refine wpAnyH_take (i := 0) (v := ?_) (op_of rfl) (by kernel_rfl) (by kernel_rfl) (by kernel_rfl) (fun _ _ _ h => h) (Or.inl ⟨by rfl, fun w hS => ?_⟩) (by assumption) ?_
            rotate_left
            · dsimp only at hS
              go_simp
              try with_reducible rfl
            try dsimp only [Act.put]
            try simp only [List.setIfInBounds_toArray, List.set_cons_zero, List.set_cons_succ]
            refine wpAnyH_take (i := 1) (v := ?_) (op_of rfl) (by kernel_rfl) (by kernel_rfl) (by kernel_rfl) (fun _ _ _ h => h) (Or.inl ⟨by rfl, fun w hS => ?_⟩) (by assumption) ?_
            rotate_left
            · dsimp only at hS
              go_simp
              try with_reducible rfl
            try dsimp only [Act.put]
            try simp only [List.setIfInBounds_toArray, List.set_cons_zero, List.set_cons_succ]
            refine wpAnyH_take (i := 2) (v := ?_) (op_of rfl) (by kernel_rfl) (by kernel_rfl) (by kernel_rfl) (fun _ _ _ h => h) (Or.inl ⟨by rfl, fun w hS => ?_⟩) (by assumption) ?_
            rotate_left
            · dsimp only at hS
              go_simp
              try with_reducible rfl
            try dsimp only [Act.put]
            try simp only [List.setIfInBounds_toArray, List.set_cons_zero, List.set_cons_succ]
            refine wpAnyH_take (i := 3) (v := ?_) (op_of rfl) (by kernel_rfl) (by kernel_rfl) (by kernel_rfl) (fun _ _ _ h => h) (Or.inl ⟨by rfl, fun w hS => ?_⟩) (by assumption) ?_
            rotate_left
            · dsimp only at hS
              go_simp
              try with_reducible rfl
            try dsimp only [Act.put]
            try simp only [List.setIfInBounds_toArray, List.set_cons_zero, List.set_cons_succ]
            refine wpAnyH_take (i := 5) (v := ?_) (op_of rfl) (by kernel_rfl) (by kernel_rfl) (by kernel_rfl) (fun _ _ _ h => h) (Or.inl ⟨by rfl, fun w hS => ?_⟩) (by assumption) ?_
            rotate_left
            · dsimp only at hS
              go_simp
              try with_reducible rfl
            try dsimp only [Act.put]
            try simp only [List.setIfInBounds_toArray, List.set_cons_zero, List.set_cons_succ]
            refine wpAnyH_take (i := 6) (v := ?_) (op_of rfl) (by kernel_rfl) (by kernel_rfl) (by kernel_rfl) (fun _ _ _ h => h) (Or.inl ⟨by rfl, fun w hS => ?_⟩) (by assumption) ?_
            rotate_left
            · dsimp only at hS
              go_simp
              try with_reducible rfl
            try dsimp only [Act.put]
            try simp only [List.setIfInBounds_toArray, List.set_cons_zero, List.set_cons_succ]
            refine wpAnyH_take (i := 7) (v := ?_) (op_of rfl) (by kernel_rfl) (by kernel_rfl) (by kernel_rfl) (fun _ _ _ h => h) (Or.inl ⟨by rfl, fun w hS => ?_⟩) (by assumption) ?_
            rotate_left
            · dsimp only at hS
              go_simp
              try with_reducible rfl
            try dsimp only [Act.put]
            try simp only [List.setIfInBounds_toArray, List.set_cons_zero, List.set_cons_succ]
            refine wpAnyH_take (i := 8) (v := ?_) (op_of rfl) (by kernel_rfl) (by kernel_rfl) (by kernel_rfl) (fun _ _ _ h => h) (Or.inl ⟨by rfl, fun w hS => ?_⟩) (by assumption) ?_
            rotate_left
            · dsimp only at hS
              go_simp
              try with_reducible rfl
            try dsimp only [Act.put]
            try simp only [List.setIfInBounds_toArray, List.set_cons_zero, List.set_cons_succ]
            refine wpAnyH_take (i := 9) (v := ?_) (op_of rfl) (by kernel_rfl) (by kernel_rfl) (by kernel_rfl) (fun _ _ _ h => h) (Or.inl ⟨by rfl, fun w hS => ?_⟩) (by assumption) ?_
            rotate_left
            · dsimp only at hS
              go_simp
              try with_reducible rfl
            try dsimp only [Act.put]
            try simp only [List.setIfInBounds_toArray, List.set_cons_zero, List.set_cons_succ]
            refine wpAnyH_take (i := 10) (v := ?_) (op_of rfl) (by kernel_rfl) (by kernel_rfl) (by kernel_rfl) (fun _ _ _ h => h) (Or.inl ⟨by rfl, fun w hS => ?_⟩) (by assumption) ?_
            rotate_left
            · dsimp only at hS
              go_simp
              try with_reducible rfl
            try dsimp only [Act.put]
            try simp only [List.setIfInBounds_toArray, List.set_cons_zero, List.set_cons_succ]
            refine wpAnyH_take (i := 11) (v := ?_) (op_of rfl) (by kernel_rfl) (by kernel_rfl) (by kernel_rfl) (fun _ _ _ h => h) (Or.inl ⟨by rfl, fun w hS => ?_⟩) (by assumption) ?_
            rotate_left
            · dsimp only at hS
              go_simp
              try with_reducible rfl
            try dsimp only [Act.put]
            try simp only [List.setIfInBounds_toArray, List.set_cons_zero, List.set_cons_succ]
            refine wpAnyH_take (i := 12) (v := ?_) (op_of rfl) (by kernel_rfl) (by kernel_rfl) (by kernel_rfl) (fun _ _ _ h => h) (Or.inl ⟨by rfl, fun w hS => ?_⟩) (by assumption) ?_
            rotate_left
            · dsimp only at hS
              go_simp
              try with_reducible rfl
            try dsimp only [Act.put]
            try simp only [List.setIfInBounds_toArray, List.set_cons_zero, List.set_cons_succ]
            refine wpAnyH_take (i := 13) (v := ?_) (op_of rfl) (by kernel_rfl) (by kernel_rfl) (by kernel_rfl) (fun _ _ _ h => h) (Or.inl ⟨by rfl, fun w hS => ?_⟩) (by assumption) ?_
            rotate_left
            · dsimp only at hS
              go_simp
              try with_reducible rfl
            try dsimp only [Act.put]
            try simp only [List.setIfInBounds_toArray, List.set_cons_zero, List.set_cons_succ]
            refine wpAnyH_take (i := 14) (v := ?_) (op_of rfl) (by kernel_rfl) (by kernel_rfl) (by kernel_rfl) (fun _ _ _ h => h) (Or.inl ⟨by rfl, fun w hS => ?_⟩) (by assumption) ?_
            rotate_left
            · dsimp only at hS
              go_simp
              try with_reducible rfl
            try dsimp only [Act.put]
            try simp only [List.setIfInBounds_toArray, List.set_cons_zero, List.set_cons_succ]
            refine wpAnyH_ready (rs := [4]) (by kernel_rfl) (by simp) (AllReadyH.cons (op_of rfl) (fun K hK => ?_) AllReadyH.nil)
            go_simp
            refine HL5.out.mono ?_
            rintro en wq ⟨rfl, rfl⟩
            refine hK.out _ _ (by assumption) (fun hHeld1 => ?_)
            clear hK K
            try dsimp only [Act.put]
            try simp only [List.setIfInBounds_toArray, List.set_cons_zero, List.set_cons_succ]
            refine wpAnyH_take (i := 15) (v := ?_) (op_of rfl) (by kernel_rfl) (by kernel_rfl) (by kernel_rfl) (fun _ _ _ h => h) (Or.inl ⟨by rfl, fun w hS => ?_⟩) (by assumption) ?_
            rotate_left
            · dsimp only at hS
              go_simp
              try with_reducible rfl
            try dsimp only [Act.put]
            try simp only [List.setIfInBounds_toArray, List.set_cons_zero, List.set_cons_succ]
            refine wpAnyH_take (i := 16) (v := ?_) (op_of rfl) (by kernel_rfl) (by kernel_rfl) (by kernel_rfl) (fun _ _ _ h => h) (Or.inl ⟨by rfl, fun w hS => ?_⟩) (by assumption) ?_
            rotate_left
            · dsimp only at hS
              go_simp
              try with_reducible rfl
            try dsimp only [Act.put]
            try simp only [List.setIfInBounds_toArray, List.set_cons_zero, List.set_cons_succ]
            refine wpAnyH_take (i := 17) (v := ?_) (op_of rfl) (by kernel_rfl) (by kernel_rfl) (by kernel_rfl) (fun _ _ _ h => h) (Or.inl ⟨by rfl, fun w hS => ?_⟩) (by assumption) ?_
            rotate_left
            · dsimp only at hS
              go_simp
              try with_reducible rfl
            try dsimp only [Act.put]
            try simp only [List.setIfInBounds_toArray, List.set_cons_zero, List.set_cons_succ]
            refine wpAnyH_take (i := 18) (v := ?_) (op_of rfl) (by kernel_rfl) (by kernel_rfl) (by kernel_rfl) (fun _ _ _ h => h) (Or.inl ⟨by rfl, fun w hS => ?_⟩) (by assumption) ?_
            rotate_left
            · dsimp only at hS
              go_simp
              try with_reducible rfl
            try dsimp only [Act.put]
            try simp only [List.setIfInBounds_toArray, List.set_cons_zero, List.set_cons_succ]
            refine wpAnyH_take (i := 20) (v := ?_) (op_of rfl) (by kernel_rfl) (by kernel_rfl) (by kernel_rfl) (fun _ _ _ h => h) (Or.inl ⟨by rfl, fun w hS => ?_⟩) (by assumption) ?_
            rotate_left
            · dsimp only at hS
              go_simp
              try with_reducible rfl
            try dsimp only [Act.put]
            try simp only [List.setIfInBounds_toArray, List.set_cons_zero, List.set_cons_succ]
            refine wpAnyH_take (i := 21) (v := ?_) (op_of rfl) (by kernel_rfl) (by kernel_rfl) (by kernel_rfl) (fun _ _ _ h => h) (Or.inl ⟨by rfl, fun w hS => ?_⟩) (by assumption) ?_
            rotate_left
            · dsimp only at hS
              go_simp
              try with_reducible rfl
            try dsimp only [Act.put]
            try simp only [List.setIfInBounds_toArray, List.set_cons_zero, List.set_cons_succ]
            refine wpAnyH_take (i := 22) (v := ?_) (op_of rfl) (by kernel_rfl) (by kernel_rfl) (by kernel_rfl) (fun _ _ _ h => h) (Or.inl ⟨by rfl, fun w hS => ?_⟩) (by assumption) ?_
            rotate_left
            · dsimp only at hS
              go_simp
              try with_reducible rfl
            try dsimp only [Act.put]
            try simp only [List.setIfInBounds_toArray, List.set_cons_zero, List.set_cons_succ]
            refine wpAnyH_take (i := 23) (v := ?_) (op_of rfl) (by kernel_rfl) (by kernel_rfl) (by kernel_rfl) (fun _ _ _ h => h) (Or.inl ⟨by rfl, fun w hS => ?_⟩) (by assumption) ?_
            rotate_left
            · dsimp only at hS
              go_simp
              try with_reducible rfl
            try dsimp only [Act.put]
            try simp only [List.setIfInBounds_toArray, List.set_cons_zero, List.set_cons_succ]
            refine wpAnyH_ready (rs := [19]) (by kernel_rfl) (by simp) (AllReadyH.cons (op_of rfl) (fun K hK => ?_) AllReadyH.nil)
            go_simp
            refine HE5.out.mono ?_
            rintro en wq ⟨rfl, rfl⟩
            refine hK.out _ _ (by assumption) (fun hHeld2 => ?_)
            clear hK K
            try dsimp only [Act.put]
            try simp only [List.setIfInBounds_toArray, List.set_cons_zero, List.set_cons_succ]
            refine wpAnyH_take (i := 24) (v := ?_) (op_of rfl) (by kernel_rfl) (by kernel_rfl) (by kernel_rfl) (fun _ _ _ h => h) (Or.inl ⟨by rfl, fun w hS => ?_⟩) (by assumption) ?_
            rotate_left
            · dsimp only at hS
              go_simp
              try with_reducible rfl
            try dsimp only [Act.put]
            try simp only [List.setIfInBounds_toArray, List.set_cons_zero, List.set_cons_succ]
            refine wpAnyH_take (i := 25) (v := ?_) (op_of rfl) (by kernel_rfl) (by kernel_rfl) (by kernel_rfl) (fun _ _ _ h => h) (Or.inl ⟨by rfl, fun w hS => ?_⟩) (by assumption) ?_
            rotate_left
            · dsimp only at hS
              go_simp
              try with_reducible rfl
            try dsimp only [Act.put]
            try simp only [List.setIfInBounds_toArray, List.set_cons_zero, List.set_cons_succ]
            refine wpAnyH_done (by kernel_rfl) ?_ _
            go_wp2_with fail
            go_roundw
            case rel => exact ⟨k + 1, by go_num, by omega, HBO5⟩
            case measure => simp [intOf]; omega
          · skip
            subst k0
            go_wp2_with fail
            obtain ⟨ga, hga⟩ : ∃ x, wr.heap.size = x := ⟨_, rfl⟩
            have hgg : g < ga ∧ h < ga := by rw [← hga]; exact ⟨wr_lt HWR.out, HBR.out.lt⟩
            have hba := b1_ wr (.cells #[.int .i64 2, .int .i64 tp, .int .u64 (wd : Int)] 36)
            have hca := (Blk.new wr 36 #[.int .i64 2, .int .i64 tp, .int .u64 (wd : Int)]).cell 1
            obtain ⟨wa, hwa⟩ : ∃ W, wr.alloc (.cells #[.int .i64 2, .int .i64 tp, .int .u64 (wd : Int)] 36) = W := ⟨_, rfl⟩
            rw [hga, hwa] at hca
            rw [hwa] at hba
            rw [hga, hwa]
            have hca : wa.drew.cell? ⟨ga, 1, none⟩ = some (.int .i64 tp) := hca
            have hwr1 := (HWR.out.below hba).below ((Below.refl _ _).drew)
            have hbr1 := (HBR.out.below hba).drew
            have HBLd : Hid (Below w.heap.size w wa.drew) := Lib.hid ((HBL.out.trans (hba.mono HBL.out.size)).drew)
            have HN1 := Lib.hid (textr_any g _ _ tp wa.drew hwr1 hT)
            have HBR1 := Lib.hid hbr1
            clear hwr1 hbr1 hba hga hwa
            go_region_held3 (fun W => W.cell? ⟨ga, 1, none⟩ = some (.int .i64 tp))
              (first | exact hca | assumption)
              (first
                | (go_at_call 18; (with_reducible refine HN1.out.mono ?_); rintro e u1 ⟨rfl, hw1, hg1⟩; have HW1 := Lib.hid hw1; have hS1 := hg1.cell hca (by simp; omega); have HB1 := Lib.hid (HBR1.out.other hg1 hgs (by omega)); have HG1 := Lib.hid hg1; clear hw1 hg1)
                | (go_at_call 19; (with_reducible refine (text5_any L h xs pp ee tp u1 HB1.out hT).mono ?_); rintro e wz ⟨rfl, ⟨p2, hb2, hp2⟩, hg2⟩; have hS2 := hg2.cell hS1 (by simp; omega); have HBO2 := Lib.hid (both_next hgs hgh hw1 HBLd.out HW1.out HG1.out hb2 hp2 hg2); clear hb2 hp2 hg2))
            obtain ⟨p5, e5, hwr5, hbr5, hbl5⟩ := HBO2.out
            have hlr := left_any g _ _ wz.drew (hwr5.below ((Below.refl _ _).drew))
            have HE5 := Lib.hid (err_any g _ _ wz.drew (hwr5.below ((Below.refl _ _).drew)))
            have hbo5 : Both w L g h xs wz.drew := HBO2.out.below ((Below.refl _ _).drew)
            have HBO5 := Lib.hid hbo5
            obtain ⟨A5, n5, c5, y1, y2, y3, y4, y5, y6, y7⟩ := hbr5
            have x0 : wz.drew.cell? ⟨h, 0, none⟩ = some (.slice A5 n5 c5) := y1.cell 0
            have x1 : wz.drew.cell? ⟨h, 1, none⟩ = some (.int .i64 (p5 : Int)) := y1.cell 1
            have x2 : wz.drew.cell? ⟨h, 2, none⟩ = some (.int .i64 e5) := y1.cell 2
            obtain ⟨r5, hr5⟩ : ∃ r, (xs.drop p5).length = r := ⟨_, rfl⟩
            rw [hr5] at hlr
            rw [List.length_drop] at hr5
            have HL5 := Lib.hid hlr
            have hsub2 : ((n5 : Int) - (p5 : Int)) = (r5 : Int) := by omega
            have hsub3 : IntKind.i64.wrap (r5 : Int) = (r5 : Int) := by rw [IntKind.wrap_i64]; omega
            have hself : ((r5 : Int) != (r5 : Int)) = false := by simp
            have hself2 : (e5 != e5) = false := by simp
            clear y1 y2 y3 hwr5 hlr hbo5 hbl5
            go_wp2_with fail
            refine wp_region_held_drew (S := (fun W => W.cell? ⟨h, 0, none⟩ = some (.slice A5 n5 c5) ∧ W.cell? ⟨h, 1, none⟩ = some (.int .i64 (p5 : Int)) ∧ W.cell? ⟨h, 2, none⟩ = some (.int .i64 e5))) (by kernel_rfl) ⟨x0, x1, x2⟩ (fun hHeld => ?_)
            refine wpAnyH_take (i := 0) (v := ?_) (op_of rfl) (by kernel_rfl) (by kernel_rfl) (by kernel_rfl) (fun _ _ _ h => h) (Or.inl ⟨by rfl, fun w hS => ?_⟩) (by assumption) ?_
            rotate_left
            · dsimp only at hS
              go_simp
              try with_reducible rfl
            try dsimp only [Act.put]
            try simp only [List.setIfInBounds_toArray, List.set_cons_zero, List.set_cons_succ]
            refine wpAnyH_take (i := 1) (v := ?_) (op_of rfl) (by kernel_rfl) (by kernel_rfl) (by kernel_rfl) (fun _ _ _ h => h) (Or.inl ⟨by rfl, fun w hS => ?_⟩) (by assumption) ?_
            rotate_left
            · dsimp only at hS
              go_simp
              try with_reducible rfl
            try dsimp only [Act.put]
            try simp only [List.setIfInBounds_toArray, List.set_cons_zero, List.set_cons_succ]
            refine wpAnyH_take (i := 2) (v := ?_) (op_of rfl) (by kernel_rfl) (by kernel_rfl) (by kernel_rfl) (fun _ _ _ h => h) (Or.inl ⟨by rfl, fun w hS => ?_⟩) (by assumption) ?_
            rotate_left
            · dsimp only at hS
              go_simp
              try with_reducible rfl
            try dsimp only [Act.put]
            try simp only [List.setIfInBounds_toArray, List.set_cons_zero, List.set_cons_succ]
            refine wpAnyH_take (i := 3) (v := ?_) (op_of rfl) (by kernel_rfl) (by kernel_rfl) (by kernel_rfl) (fun _ _ _ h => h) (Or.inl ⟨by rfl, fun w hS => ?_⟩) (by assumption) ?_
            rotate_left
            · dsimp only at hS
              go_simp
              try with_reducible rfl
            try dsimp only [Act.put]
            try simp only [List.setIfInBounds_toArray, List.set_cons_zero, List.set_cons_succ]
            refine wpAnyH_take (i := 5) (v := ?_) (op_of rfl) (by kernel_rfl) (by kernel_rfl) (by kernel_rfl) (fun _ _ _ h => h) (Or.inl ⟨by rfl, fun w hS => ?_⟩) (by assumption) ?_
            rotate_left
            · dsimp only at hS
              go_simp
              try with_reducible rfl
            try dsimp only [Act.put]
            try simp only [List.setIfInBounds_toArray, List.set_cons_zero, List.set_cons_succ]
            refine wpAnyH_take (i := 6) (v := ?_) (op_of rfl) (by kernel_rfl) (by kernel_rfl) (by kernel_rfl) (fun _ _ _ h => h) (Or.inl ⟨by rfl, fun w hS => ?_⟩) (by assumption) ?_
            rotate_left
            · dsimp only at hS
              go_simp
              try with_reducible rfl
            try dsimp only [Act.put]
            try simp only [List.setIfInBounds_toArray, List.set_cons_zero, List.set_cons_succ]
            refine wpAnyH_take (i := 7) (v := ?_) (op_of rfl) (by kernel_rfl) (by kernel_rfl) (by kernel_rfl) (fun _ _ _ h => h) (Or.inl ⟨by rfl, fun w hS => ?_⟩) (by assumption) ?_
            rotate_left
            · dsimp only at hS
              go_simp
              try with_reducible rfl
            try dsimp only [Act.put]
            try simp only [List.setIfInBounds_toArray, List.set_cons_zero, List.set_cons_succ]
            refine wpAnyH_take (i := 8) (v := ?_) (op_of rfl) (by kernel_rfl) (by kernel_rfl) (by kernel_rfl) (fun _ _ _ h => h) (Or.inl ⟨by rfl, fun w hS => ?_⟩) (by assumption) ?_
            rotate_left
            · dsimp only at hS
              go_simp
              try with_reducible rfl
            try dsimp only [Act.put]
            try simp only [List.setIfInBounds_toArray, List.set_cons_zero, List.set_cons_succ]
            refine wpAnyH_take (i := 9) (v := ?_) (op_of rfl) (by kernel_rfl) (by kernel_rfl) (by kernel_rfl) (fun _ _ _ h => h) (Or.inl ⟨by rfl, fun w hS => ?_⟩) (by assumption) ?_
            rotate_left
            · dsimp only at hS
              go_simp
              try with_reducible rfl
            try dsimp only [Act.put]
            try simp only [List.setIfInBounds_toArray, List.set_cons_zero, List.set_cons_succ]
            refine wpAnyH_take (i := 10) (v := ?_) (op_of rfl) (by kernel_rfl) (by kernel_rfl) (by kernel_rfl) (fun _ _ _ h => h) (Or.inl ⟨by rfl, fun w hS => ?_⟩) (by assumption) ?_
            rotate_left
            · dsimp only at hS
              go_simp
              try with_reducible rfl
            try dsimp only [Act.put]
            try simp only [List.setIfInBounds_toArray, List.set_cons_zero, List.set_cons_succ]
            refine wpAnyH_take (i := 11) (v := ?_) (op_of rfl) (by kernel_rfl) (by kernel_rfl) (by kernel_rfl) (fun _ _ _ h => h) (Or.inl ⟨by rfl, fun w hS => ?_⟩) (by assumption) ?_
            rotate_left
            · dsimp only at hS
              go_simp
              try with_reducible rfl
            try dsimp only [Act.put]
            try simp only [List.setIfInBounds_toArray, List.set_cons_zero, List.set_cons_succ]
            refine wpAnyH_take (i := 12) (v := ?_) (op_of rfl) (by kernel_rfl) (by kernel_rfl) (by kernel_rfl) (fun _ _ _ h => h) (Or.inl ⟨by rfl, fun w hS => ?_⟩) (by assumption) ?_
            rotate_left
            · dsimp only at hS
              go_simp
              try with_reducible rfl
            try dsimp only [Act.put]
            try simp only [List.setIfInBounds_toArray, List.set_cons_zero, List.set_cons_succ]
            refine wpAnyH_take (i := 13) (v := ?_) (op_of rfl) (by kernel_rfl) (by kernel_rfl) (by kernel_rfl) (fun _ _ _ h => h) (Or.inl ⟨by rfl, fun w hS => ?_⟩) (by assumption) ?_
            rotate_left
            · dsimp only at hS
              go_simp
              try with_reducible rfl
            try dsimp only [Act.put]
            try simp only [List.setIfInBounds_toArray, List.set_cons_zero, List.set_cons_succ]
            refine wpAnyH_take (i := 14) (v := ?_) (op_of rfl) (by kernel_rfl) (by kernel_rfl) (by kernel_rfl) (fun _ _ _ h => h) (Or.inl ⟨by rfl, fun w hS => ?_⟩) (by assumption) ?_
            rotate_left
            · dsimp only at hS
              go_simp
              try with_reducible rfl
            try dsimp only [Act.put]
            try simp only [List.setIfInBounds_toArray, List.set_cons_zero, List.set_cons_succ]
            refine wpAnyH_ready (rs := [4]) (by kernel_rfl) (by simp) (AllReadyH.cons (op_of rfl) (fun K hK => ?_) AllReadyH.nil)
            go_simp
            refine HL5.out.mono ?_
            rintro en wq ⟨rfl, rfl⟩
            refine hK.out _ _ (by assumption) (fun hHeld1 => ?_)
            clear hK K
            try dsimp only [Act.put]
            try simp only [List.setIfInBounds_toArray, List.set_cons_zero, List.set_cons_succ]
            refine wpAnyH_take (i := 15) (v := ?_) (op_of rfl) (by kernel_rfl) (by kernel_rfl) (by kernel_rfl) (fun _ _ _ h => h) (Or.inl ⟨by rfl, fun w hS => ?_⟩) (by assumption) ?_
            rotate_left
            · dsimp only at hS
              go_simp
              try with_reducible rfl
            try dsimp only [Act.put]
            try simp only [List.setIfInBounds_toArray, List.set_cons_zero, List.set_cons_succ]
            refine wpAnyH_take (i := 16) (v := ?_) (op_of rfl) (by kernel_rfl) (by kernel_rfl) (by kernel_rfl) (fun _ _ _ h => h) (Or.inl ⟨by rfl, fun w hS => ?_⟩) (by assumption) ?_
            rotate_left
            · dsimp only at hS
              go_simp
              try with_reducible rfl
            try dsimp only [Act.put]
            try simp only [List.setIfInBounds_toArray, List.set_cons_zero, List.set_cons_succ]
            refine wpAnyH_take (i := 17) (v := ?_) (op_of rfl) (by kernel_rfl) (by kernel_rfl) (by kernel_rfl) (fun _ _ _ h => h) (Or.inl ⟨by rfl, fun w hS => ?_⟩) (by assumption) ?_
            rotate_left
            · dsimp only at hS
              go_simp
              try with_reducible rfl
            try dsimp only [Act.put]
            try simp only [List.setIfInBounds_toArray, List.set_cons_zero, List.set_cons_succ]
            refine wpAnyH_take (i := 18) (v := ?_) (op_of rfl) (by kernel_rfl) (by kernel_rfl) (by kernel_rfl) (fun _ _ _ h => h) (Or.inl ⟨by rfl, fun w hS => ?_⟩) (by assumption) ?_
            rotate_left
            · dsimp only at hS
              go_simp
              try with_reducible rfl
            try dsimp only [Act.put]
            try simp only [List.setIfInBounds_toArray, List.set_cons_zero, List.set_cons_succ]
            refine wpAnyH_take (i := 20) (v := ?_) (op_of rfl) (by kernel_rfl) (by kernel_rfl) (by kernel_rfl) (fun _ _ _ h => h) (Or.inl ⟨by rfl, fun w hS => ?_⟩) (by assumption) ?_
            rotate_left
            · dsimp only at hS
              go_simp
              try with_reducible rfl
            try dsimp only [Act.put]
            try simp only [List.setIfInBounds_toArray, List.set_cons_zero, List.set_cons_succ]
            refine wpAnyH_take (i := 21) (v := ?_) (op_of rfl) (by kernel_rfl) (by kernel_rfl) (by kernel_rfl) (fun _ _ _ h => h) (Or.inl ⟨by rfl, fun w hS => ?_⟩) (by assumption) ?_
            rotate_left
            · dsimp only at hS
              go_simp
              try with_reducible rfl
            try dsimp only [Act.put]
            try simp only [List.setIfInBounds_toArray, List.set_cons_zero, List.set_cons_succ]
            refine wpAnyH_take (i := 22) (v := ?_) (op_of rfl) (by kernel_rfl) (by kernel_rfl) (by kernel_rfl) (fun _ _ _ h => h) (Or.inl ⟨by rfl, fun w hS => ?_⟩) (by assumption) ?_
            rotate_left
            · dsimp only at hS
              go_simp
              try with_reducible rfl
            try dsimp only [Act.put]
            try simp only [List.setIfInBounds_toArray, List.set_cons_zero, List.set_cons_succ]
            refine wpAnyH_take (i := 23) (v := ?_) (op_of rfl) (by kernel_rfl) (by kernel_rfl) (by kernel_rfl) (fun _ _ _ h => h) (Or.inl ⟨by rfl, fun w hS => ?_⟩) (by assumption) ?_
            rotate_left
            · dsimp only at hS
              go_simp
              try with_reducible rfl
            try dsimp only [Act.put]
            try simp only [List.setIfInBounds_toArray, List.set_cons_zero, List.set_cons_succ]
            refine wpAnyH_ready (rs := [19]) (by kernel_rfl) (by simp) (AllReadyH.cons (op_of rfl) (fun K hK => ?_) AllReadyH.nil)
            go_simp
            refine HE5.out.mono ?_
            rintro en wq ⟨rfl, rfl⟩
            refine hK.out _ _ (by assumption) (fun hHeld2 => ?_)
            clear hK K
            try dsimp only [Act.put]
            try simp only [List.setIfInBounds_toArray, List.set_cons_zero, List.set_cons_succ]
            refine wpAnyH_take (i := 24) (v := ?_) (op_of rfl) (by kernel_rfl) (by kernel_rfl) (by kernel_rfl) (fun _ _ _ h => h) (Or.inl ⟨by rfl, fun w hS => ?_⟩) (by assumption) ?_
            rotate_left
            · dsimp only at hS
              go_simp
              try with_reducible rfl
            try dsimp only [Act.put]
            try simp only [List.setIfInBounds_toArray, List.set_cons_zero, List.set_cons_succ]
            refine wpAnyH_take (i := 25) (v := ?_) (op_of rfl) (by kernel_rfl) (by kernel_rfl) (by kernel_rfl) (fun _ _ _ h => h) (Or.inl ⟨by rfl, fun w hS => ?_⟩) (by assumption) ?_
            rotate_left
            · dsimp only at hS
              go_simp
              try with_reducible rfl
            try dsimp only [Act.put]
            try simp only [List.setIfInBounds_toArray, List.set_cons_zero, List.set_cons_succ]
            refine wpAnyH_done (by kernel_rfl) ?_ _
            go_wp2_with fail
            go_roundw
            case rel => exact ⟨k + 1, by go_num, by omega, HBO5⟩
            case measure => simp [intOf]; omega
          · skip
            subst k0
            have hba := b1_ wr (.cells #[.int .i64 3, .int .i64 tp, .int .u64 (wd : Int)] 36)
            have hca : (wr.alloc (.cells #[.int .i64 3, .int .i64 tp, .int .u64 (wd : Int)] 36)).cell? ⟨wr.heap.size, 1, none⟩ = some (.int .i64 tp) := (Blk.new wr 36 #[.int .i64 3, .int .i64 tp, .int .u64 (wd : Int)]).cell 1
            have hgg : g < wr.heap.size ∧ h < wr.heap.size := ⟨wr_lt HWR.out, HBR.out.lt⟩
            have HN1 := Lib.hid (fail_any g _ _ tp _ (HWR.out.below hba))
            have HBR1 := Lib.hid (HBR.out.below hba)
            have HBLd := Lib.hid (HBL.out.trans (hba.mono HBL.out.size))
            have HCA := Lib.hid hca
            clear hba
            go_wp2_with fail
            refine HN1.out.mono ?_
            rintro en u1 ⟨rfl, hw1, hg1⟩
            have hS1 := hg1.cell HCA.out (by simp; omega)
            have HB1 := Lib.hid (HBR1.out.other hg1 hgs (by omega))
            have HW1 := Lib.hid hw1
            have HG1 := Lib.hid hg1
            clear hw1 hg1 hca HCA
            go_wp2_with fail
            refine (failp_any L h xs pp ee tp u1 HB1.out).mono ?_
            rintro en wz ⟨rfl, hb2, hg2⟩
            have HBO2 := Lib.hid (both_next hgs hgh hw1 HBLd.out HW1.out HG1.out hb2 rfl hg2)
            clear hb2 hg2
            obtain ⟨p5, e5, hwr5, hbr5, hbl5⟩ := HBO2.out
            have hlr := left_any g _ _ wz.drew (hwr5.below ((Below.refl _ _).drew))
            have HE5 := Lib.hid (err_any g _ _ wz.drew (hwr5.below ((Below.refl _ _).drew)))
            have hbo5 : Both w L g h xs wz.drew := HBO2.out.below ((Below.refl _ _).drew)
            have HBO5 := Lib.hid hbo5
            obtain ⟨A5, n5, c5, y1, y2, y3, y4, y5, y6, y7⟩ := hbr5
            have x0 : wz.drew.cell? ⟨h, 0, none⟩ = some (.slice A5 n5 c5) := y1.cell 0
            have x1 : wz.drew.cell? ⟨h, 1, none⟩ = some (.int .i64 (p5 : Int)) := y1.cell 1
            have x2 : wz.drew.cell? ⟨h, 2, none⟩ = some (.int .i64 e5) := y1.cell 2
            obtain ⟨r5, hr5⟩ : ∃ r, (xs.drop p5).length = r := ⟨_, rfl⟩
            rw [hr5] at hlr
            rw [List.length_drop] at hr5
            have HL5 := Lib.hid hlr
            have hsub2 : ((n5 : Int) - (p5 : Int)) = (r5 : Int) := by omega
            have hsub3 : IntKind.i64.wrap (r5 : Int) = (r5 : Int) := by rw [IntKind.wrap_i64]; omega
            have hself : ((r5 : Int) != (r5 : Int)) = false := by simp
            have hself2 : (e5 != e5) = false := by simp
            clear y1 y2 y3 hwr5 hlr hbo5 hbl5
            go_wp2_with fail
            refine wp_region_held_drew (S := (fun W => W.cell? ⟨h, 0, none⟩ = some (.slice A5 n5 c5) ∧ W.cell? ⟨h, 1, none⟩ = some (.int .i64 (p5 : Int)) ∧ W.cell? ⟨h, 2, none⟩ = some (.int .i64 e5))) (by kernel_rfl) ⟨x0, x1, x2⟩ (fun hHeld => ?_)
            refine wpAnyH_take (i := 0) (v := ?_) (op_of rfl) (by kernel_rfl) (by kernel_rfl) (by kernel_rfl) (fun _ _ _ h => h) (Or.inl ⟨by rfl, fun w hS => ?_⟩) (by assumption) ?_
            rotate_left
            · dsimp only at hS
              go_simp
              try with_reducible rfl
            try dsimp only [Act.put]
            try simp only [List.setIfInBounds_toArray, List.set_cons_zero, List.set_cons_succ]
            refine wpAnyH_take (i := 1) (v := ?_) (op_of rfl) (by kernel_rfl) (by kernel_rfl) (by kernel_rfl) (fun _ _ _ h => h) (Or.inl ⟨by rfl, fun w hS => ?_⟩) (by assumption) ?_
            rotate_left
            · dsimp only at hS
              go_simp
              try with_reducible rfl
            try dsimp only [Act.put]
            try simp only [List.setIfInBounds_toArray, List.set_cons_zero, List.set_cons_succ]
            refine wpAnyH_take (i := 2) (v := ?_) (op_of rfl) (by kernel_rfl) (by kernel_rfl) (by kernel_rfl) (fun _ _ _ h => h) (Or.inl ⟨by rfl, fun w hS => ?_⟩) (by assumption) ?_
            rotate_left
            · dsimp only at hS
              go_simp
              try with_reducible rfl
            try dsimp only [Act.put]
            try simp only [List.setIfInBounds_toArray, List.set_cons_zero, List.set_cons_succ]
            refine wpAnyH_take (i := 3) (v := ?_) (op_of rfl) (by kernel_rfl) (by kernel_rfl) (by kernel_rfl) (fun _ _ _ h => h) (Or.inl ⟨by rfl, fun w hS => ?_⟩) (by assumption) ?_
            rotate_left
            · dsimp only at hS
              go_simp
              try with_reducible rfl
            try dsimp only [Act.put]
            try simp only [List.setIfInBounds_toArray, List.set_cons_zero, List.set_cons_succ]
            refine wpAnyH_take (i := 5) (v := ?_) (op_of rfl) (by kernel_rfl) (by kernel_rfl) (by kernel_rfl) (fun _ _ _ h => h) (Or.inl ⟨by rfl, fun w hS => ?_⟩) (by assumption) ?_
            rotate_left
            · dsimp only at hS
              go_simp
              try with_reducible rfl
            try dsimp only [Act.put]
            try simp only [List.setIfInBounds_toArray, List.set_cons_zero, List.set_cons_succ]
            refine wpAnyH_take (i := 6) (v := ?_) (op_of rfl) (by kernel_rfl) (by kernel_rfl) (by kernel_rfl) (fun _ _ _ h => h) (Or.inl ⟨by rfl, fun w hS => ?_⟩) (by assumption) ?_
            rotate_left
            · dsimp only at hS
              go_simp
              try with_reducible rfl
            try dsimp only [Act.put]
            try simp only [List.setIfInBounds_toArray, List.set_cons_zero, List.set_cons_succ]
            refine wpAnyH_take (i := 7) (v := ?_) (op_of rfl) (by kernel_rfl) (by kernel_rfl) (by kernel_rfl) (fun _ _ _ h => h) (Or.inl ⟨by rfl, fun w hS => ?_⟩) (by assumption) ?_
            rotate_left
            · dsimp only at hS
              go_simp
              try with_reducible rfl
            try dsimp only [Act.put]
            try simp only [List.setIfInBounds_toArray, List.set_cons_zero, List.set_cons_succ]
            refine wpAnyH_take (i := 8) (v := ?_) (op_of rfl) (by kernel_rfl) (by kernel_rfl) (by kernel_rfl) (fun _ _ _ h => h) (Or.inl ⟨by rfl, fun w hS => ?_⟩) (by assumption) ?_
            rotate_left
            · dsimp only at hS
              go_simp
              try with_reducible rfl
            try dsimp only [Act.put]
            try simp only [List.setIfInBounds_toArray, List.set_cons_zero, List.set_cons_succ]
            refine wpAnyH_take (i := 9) (v := ?_) (op_of rfl) (by kernel_rfl) (by kernel_rfl) (by kernel_rfl) (fun _ _ _ h => h) (Or.inl ⟨by rfl, fun w hS => ?_⟩) (by assumption) ?_
            rotate_left
            · dsimp only at hS
              go_simp
              try with_reducible rfl
            try dsimp only [Act.put]
            try simp only [List.setIfInBounds_toArray, List.set_cons_zero, List.set_cons_succ]
            refine wpAnyH_take (i := 10) (v := ?_) (op_of rfl) (by kernel_rfl) (by kernel_rfl) (by kernel_rfl) (fun _ _ _ h => h) (Or.inl ⟨by rfl, fun w hS => ?_⟩) (by assumption) ?_
            rotate_left
            · dsimp only at hS
              go_simp
              try with_reducible rfl
            try dsimp only [Act.put]
            try simp only [List.setIfInBounds_toArray, List.set_cons_zero, List.set_cons_succ]
            refine wpAnyH_take (i := 11) (v := ?_) (op_of rfl) (by kernel_rfl) (by kernel_rfl) (by kernel_rfl) (fun _ _ _ h => h) (Or.inl ⟨by rfl, fun w hS => ?_⟩) (by assumption) ?_
            rotate_left
            · dsimp only at hS
              go_simp
              try with_reducible rfl
            try dsimp only [Act.put]
            try simp only [List.setIfInBounds_toArray, List.set_cons_zero, List.set_cons_succ]
            refine wpAnyH_take (i := 12) (v := ?_) (op_of rfl) (by kernel_rfl) (by kernel_rfl) (by kernel_rfl) (fun _ _ _ h => h) (Or.inl ⟨by rfl, fun w hS => ?_⟩) (by assumption) ?_
            rotate_left
            · dsimp only at hS
              go_simp
              try with_reducible rfl
            try dsimp only [Act.put]
            try simp only [List.setIfInBounds_toArray, List.set_cons_zero, List.set_cons_succ]
            refine wpAnyH_take (i := 13) (v := ?_) (op_of rfl) (by kernel_rfl) (by kernel_rfl) (by kernel_rfl) (fun _ _ _ h => h) (Or.inl ⟨by rfl, fun w hS => ?_⟩) (by assumption) ?_
            rotate_left
            · dsimp only at hS
              go_simp
              try with_reducible rfl
            try dsimp only [Act.put]
            try simp only [List.setIfInBounds_toArray, List.set_cons_zero, List.set_cons_succ]
            refine wpAnyH_take (i := 14) (v := ?_) (op_of rfl) (by kernel_rfl) (by kernel_rfl) (by kernel_rfl) (fun _ _ _ h => h) (Or.inl ⟨by rfl, fun w hS => ?_⟩) (by assumption) ?_
            rotate_left
            · dsimp only at hS
              go_simp
              try with_reducible rfl
            try dsimp only [Act.put]
            try simp only [List.setIfInBounds_toArray, List.set_cons_zero, List.set_cons_succ]
            refine wpAnyH_ready (rs := [4]) (by kernel_rfl) (by simp) (AllReadyH.cons (op_of rfl) (fun K hK => ?_) AllReadyH.nil)
            go_simp
            refine HL5.out.mono ?_
            rintro en wq ⟨rfl, rfl⟩
            refine hK.out _ _ (by assumption) (fun hHeld1 => ?_)
            clear hK K
            try dsimp only [Act.put]
            try simp only [List.setIfInBounds_toArray, List.set_cons_zero, List.set_cons_succ]
            refine wpAnyH_take (i := 15) (v := ?_) (op_of rfl) (by kernel_rfl) (by kernel_rfl) (by kernel_rfl) (fun _ _ _ h => h) (Or.inl ⟨by rfl, fun w hS => ?_⟩) (by assumption) ?_
            rotate_left
            · dsimp only at hS
              go_simp
              try with_reducible rfl
            try dsimp only [Act.put]
            try simp only [List.setIfInBounds_toArray, List.set_cons_zero, List.set_cons_succ]
            refine wpAnyH_take (i := 16) (v := ?_) (op_of rfl) (by kernel_rfl) (by kernel_rfl) (by kernel_rfl) (fun _ _ _ h => h) (Or.inl ⟨by rfl, fun w hS => ?_⟩) (by assumption) ?_
            rotate_left
            · dsimp only at hS
              go_simp
              try with_reducible rfl
            try dsimp only [Act.put]
            try simp only [List.setIfInBounds_toArray, List.set_cons_zero, List.set_cons_succ]
            refine wpAnyH_take (i := 17) (v := ?_) (op_of rfl) (by kernel_rfl) (by kernel_rfl) (by kernel_rfl) (fun _ _ _ h => h) (Or.inl ⟨by rfl, fun w hS => ?_⟩) (by assumption) ?_
            rotate_left
            · dsimp only at hS
              go_simp
              try with_reducible rfl
            try dsimp only [Act.put]
            try simp only [List.setIfInBounds_toArray, List.set_cons_zero, List.set_cons_succ]
            refine wpAnyH_take (i := 18) (v := ?_) (op_of rfl) (by kernel_rfl) (by kernel_rfl) (by kernel_rfl) (fun _ _ _ h => h) (Or.inl ⟨by rfl, fun w hS => ?_⟩) (by assumption) ?_
            rotate_left
            · dsimp only at hS
              go_simp
              try with_reducible rfl
            try dsimp only [Act.put]
            try simp only [List.setIfInBounds_toArray, List.set_cons_zero, List.set_cons_succ]
            refine wpAnyH_take (i := 20) (v := ?_) (op_of rfl) (by kernel_rfl) (by kernel_rfl) (by kernel_rfl) (fun _ _ _ h => h) (Or.inl ⟨by rfl, fun w hS => ?_⟩) (by assumption) ?_
            rotate_left
            · dsimp only at hS
              go_simp
              try with_reducible rfl
            try dsimp only [Act.put]
            try simp only [List.setIfInBounds_toArray, List.set_cons_zero, List.set_cons_succ]
            refine wpAnyH_take (i := 21) (v := ?_) (op_of rfl) (by kernel_rfl) (by kernel_rfl) (by kernel_rfl) (fun _ _ _ h => h) (Or.inl ⟨by rfl, fun w hS => ?_⟩) (by assumption) ?_
            rotate_left
            · dsimp only at hS
              go_simp
              try with_reducible rfl
            try dsimp only [Act.put]
            try simp only [List.setIfInBounds_toArray, List.set_cons_zero, List.set_cons_succ]
            refine wpAnyH_take (i := 22) (v := ?_) (op_of rfl) (by kernel_rfl) (by kernel_rfl) (by kernel_rfl) (fun _ _ _ h => h) (Or.inl ⟨by rfl, fun w hS => ?_⟩) (by assumption) ?_
            rotate_left
            · dsimp only at hS
              go_simp
              try with_reducible rfl
            try dsimp only [Act.put]
            try simp only [List.setIfInBounds_toArray, List.set_cons_zero, List.set_cons_succ]
            refine wpAnyH_take (i := 23) (v := ?_) (op_of rfl) (by kernel_rfl) (by kernel_rfl) (by kernel_rfl) (fun _ _ _ h => h) (Or.inl ⟨by rfl, fun w hS => ?_⟩) (by assumption) ?_
            rotate_left
            · dsimp only at hS
              go_simp
              try with_reducible rfl
            try dsimp only [Act.put]
            try simp only [List.setIfInBounds_toArray, List.set_cons_zero, List.set_cons_succ]
            refine wpAnyH_ready (rs := [19]) (by kernel_rfl) (by simp) (AllReadyH.cons (op_of rfl) (fun K hK => ?_) AllReadyH.nil)
            go_simp
            refine HE5.out.mono ?_
            rintro en wq ⟨rfl, rfl⟩
            refine hK.out _ _ (by assumption) (fun hHeld2 => ?_)
            clear hK K
            try dsimp only [Act.put]
            try simp only [List.setIfInBounds_toArray, List.set_cons_zero, List.set_cons_succ]
            refine wpAnyH_take (i := 24) (v := ?_) (op_of rfl) (by kernel_rfl) (by kernel_rfl) (by kernel_rfl) (fun _ _ _ h => h) (Or.inl ⟨by rfl, fun w hS => ?_⟩) (by assumption) ?_
            rotate_left
            · dsimp only at hS
              go_simp
              try with_reducible rfl
            try dsimp only [Act.put]
            try simp only [List.setIfInBounds_toArray, List.set_cons_zero, List.set_cons_succ]
            refine wpAnyH_take (i := 25) (v := ?_) (op_of rfl) (by kernel_rfl) (by kernel_rfl) (by kernel_rfl) (fun _ _ _ h => h) (Or.inl ⟨by rfl, fun w hS => ?_⟩) (by assumption) ?_
            rotate_left
            · dsimp only at hS
              go_simp
              try with_reducible rfl
            try dsimp only [Act.put]
            try simp only [List.setIfInBounds_toArray, List.set_cons_zero, List.set_cons_succ]
            refine wpAnyH_done (by kernel_rfl) ?_ _
            go_wp2_with fail
            go_roundw
            case rel => exact ⟨k + 1, by go_num, by omega, HBO5⟩
            case measure => simp [intOf]; omega
          · skip
            have hbo2 : Both w L g h xs (wr.alloc (.cells #[.int .i64 kd, .int .i64 tp, .int .u64 (wd : Int)] 36)) := (show Both w L g h xs wr from ⟨pp, ee, HWR.out, HBR.out, HBL.out⟩).below (b1_ wr _)
            have HBO2 := Lib.hid hbo2
            clear hbo2
            go_wp2_with fail
            obtain ⟨wz, hwz⟩ : ∃ W, wr.alloc (.cells #[.int .i64 kd, .int .i64 tp, .int .u64 (wd : Int)] 36) = W := ⟨_, rfl⟩
            rw [hwz] at HBO2
            rw [hwz]
            obtain ⟨p5, e5, hwr5, hbr5, hbl5⟩ := HBO2.out
            have hlr := left_any g _ _ wz.drew (hwr5.below ((Below.refl _ _).drew))
            have HE5 := Lib.hid (err_any g _ _ wz.drew (hwr5.below ((Below.refl _ _).drew)))
            have hbo5 : Both w L g h xs wz.drew := HBO2.out.below ((Below.refl _ _).drew)
            have HBO5 := Lib.hid hbo5
            obtain ⟨A5, n5, c5, y1, y2, y3, y4, y5, y6, y7⟩ := hbr5
            have x0 : wz.drew.cell? ⟨h, 0, none⟩ = some (.slice A5 n5 c5) := y1.cell 0
            have x1 : wz.drew.cell? ⟨h, 1, none⟩ = some (.int .i64 (p5 : Int)) := y1.cell 1
            have x2 : wz.drew.cell? ⟨h, 2, none⟩ = some (.int .i64 e5) := y1.cell 2
            obtain ⟨r5, hr5⟩ : ∃ r, (xs.drop p5).length = r := ⟨_, rfl⟩
            rw [hr5] at hlr
            rw [List.length_drop] at hr5
            have HL5 := Lib.hid hlr
            have hsub2 : ((n5 : Int) - (p5 : Int)) = (r5 : Int) := by omega
            have hsub3 : IntKind.i64.wrap (r5 : Int) = (r5 : Int) := by rw [IntKind.wrap_i64]; omega
            have hself : ((r5 : Int) != (r5 : Int)) = false := by simp
            have hself2 : (e5 != e5) = false := by simp
            clear y1 y2 y3 hwr5 hlr hbo5 hbl5
            go_wp2_with fail
            refine wp_region_held_drew (S := (fun W => W.cell? ⟨h, 0, none⟩ = some (.slice A5 n5 c5) ∧ W.cell? ⟨h, 1, none⟩ = some (.int .i64 (p5 : Int)) ∧ W.cell? ⟨h, 2, none⟩ = some (.int .i64 e5))) (by kernel_rfl) ⟨x0, x1, x2⟩ (fun hHeld => ?_)
            refine wpAnyH_take (i := 0) (v := ?_) (op_of rfl) (by kernel_rfl) (by kernel_rfl) (by kernel_rfl) (fun _ _ _ h => h) (Or.inl ⟨by rfl, fun w hS => ?_⟩) (by assumption) ?_
            rotate_left
            · dsimp only at hS
              go_simp
              try with_reducible rfl
            try dsimp only [Act.put]
            try simp only [List.setIfInBounds_toArray, List.set_cons_zero, List.set_cons_succ]
            refine wpAnyH_take (i := 1) (v := ?_) (op_of rfl) (by kernel_rfl) (by kernel_rfl) (by kernel_rfl) (fun _ _ _ h => h) (Or.inl ⟨by rfl, fun w hS => ?_⟩) (by assumption) ?_
            rotate_left
            · dsimp only at hS
              go_simp
              try with_reducible rfl
            try dsimp only [Act.put]
            try simp only [List.setIfInBounds_toArray, List.set_cons_zero, List.set_cons_succ]
            refine wpAnyH_take (i := 2) (v := ?_) (op_of rfl) (by kernel_rfl) (by kernel_rfl) (by kernel_rfl) (fun _ _ _ h => h) (Or.inl ⟨by rfl, fun w hS => ?_⟩) (by assumption) ?_
            rotate_left
            · dsimp only at hS
              go_simp
              try with_reducible rfl
            try dsimp only [Act.put]
            try simp only [List.setIfInBounds_toArray, List.set_cons_zero, List.set_cons_succ]
            refine wpAnyH_take (i := 3) (v := ?_) (op_of rfl) (by kernel_rfl) (by kernel_rfl) (by kernel_rfl) (fun _ _ _ h => h) (Or.inl ⟨by rfl, fun w hS => ?_⟩) (by assumption) ?_
            rotate_left
            · dsimp only at hS
              go_simp
              try with_reducible rfl
            try dsimp only [Act.put]
            try simp only [List.setIfInBounds_toArray, List.set_cons_zero, List.set_cons_succ]
            refine wpAnyH_take (i := 5) (v := ?_) (op_of rfl) (by kernel_rfl) (by kernel_rfl) (by kernel_rfl) (fun _ _ _ h => h) (Or.inl ⟨by rfl, fun w hS => ?_⟩) (by assumption) ?_
            rotate_left
            · dsimp only at hS
              go_simp
              try with_reducible rfl
            try dsimp only [Act.put]
            try simp only [List.setIfInBounds_toArray, List.set_cons_zero, List.set_cons_succ]
            refine wpAnyH_take (i := 6) (v := ?_) (op_of rfl) (by kernel_rfl) (by kernel_rfl) (by kernel_rfl) (fun _ _ _ h => h) (Or.inl ⟨by rfl, fun w hS => ?_⟩) (by assumption) ?_
            rotate_left
            · dsimp only at hS
              go_simp
              try with_reducible rfl
            try dsimp only [Act.put]
            try simp only [List.setIfInBounds_toArray, List.set_cons_zero, List.set_cons_succ]
            refine wpAnyH_take (i := 7) (v := ?_) (op_of rfl) (by kernel_rfl) (by kernel_rfl) (by kernel_rfl) (fun _ _ _ h => h) (Or.inl ⟨by rfl, fun w hS => ?_⟩) (by assumption) ?_
            rotate_left
            · dsimp only at hS
              go_simp
              try with_reducible rfl
            try dsimp only [Act.put]
            try simp only [List.setIfInBounds_toArray, List.set_cons_zero, List.set_cons_succ]
            refine wpAnyH_take (i := 8) (v := ?_) (op_of rfl) (by kernel_rfl) (by kernel_rfl) (by kernel_rfl) (fun _ _ _ h => h) (Or.inl ⟨by rfl, fun w hS => ?_⟩) (by assumption) ?_
            rotate_left
            · dsimp only at hS
              go_simp
              try with_reducible rfl
            try dsimp only [Act.put]
            try simp only [List.setIfInBounds_toArray, List.set_cons_zero, List.set_cons_succ]
            refine wpAnyH_take (i := 9) (v := ?_) (op_of rfl) (by kernel_rfl) (by kernel_rfl) (by kernel_rfl) (fun _ _ _ h => h) (Or.inl ⟨by rfl, fun w hS => ?_⟩) (by assumption) ?_
            rotate_left
            · dsimp only at hS
              go_simp
              try with_reducible rfl
            try dsimp only [Act.put]
            try simp only [List.setIfInBounds_toArray, List.set_cons_zero, List.set_cons_succ]
            refine wpAnyH_take (i := 10) (v := ?_) (op_of rfl) (by kernel_rfl) (by kernel_rfl) (by kernel_rfl) (fun _ _ _ h => h) (Or.inl ⟨by rfl, fun w hS => ?_⟩) (by assumption) ?_
            rotate_left
            · dsimp only at hS
              go_simp
              try with_reducible rfl
            try dsimp only [Act.put]
            try simp only [List.setIfInBounds_toArray, List.set_cons_zero, List.set_cons_succ]
            refine wpAnyH_take (i := 11) (v := ?_) (op_of rfl) (by kernel_rfl) (by kernel_rfl) (by kernel_rfl) (fun _ _ _ h => h) (Or.inl ⟨by rfl, fun w hS => ?_⟩) (by assumption) ?_
            rotate_left
            · dsimp only at hS
              go_simp
              try with_reducible rfl
            try dsimp only [Act.put]
            try simp only [List.setIfInBounds_toArray, List.set_cons_zero, List.set_cons_succ]
            refine wpAnyH_take (i := 12) (v := ?_) (op_of rfl) (by kernel_rfl) (by kernel_rfl) (by kernel_rfl) (fun _ _ _ h => h) (Or.inl ⟨by rfl, fun w hS => ?_⟩) (by assumption) ?_
            rotate_left
            · dsimp only at hS
              go_simp
              try with_reducible rfl
            try dsimp only [Act.put]
            try simp only [List.setIfInBounds_toArray, List.set_cons_zero, List.set_cons_succ]
            refine wpAnyH_take (i := 13) (v := ?_) (op_of rfl) (by kernel_rfl) (by kernel_rfl) (by kernel_rfl) (fun _ _ _ h => h) (Or.inl ⟨by rfl, fun w hS => ?_⟩) (by assumption) ?_
            rotate_left
            · dsimp only at hS
              go_simp
              try with_reducible rfl
            try dsimp only [Act.put]
            try simp only [List.setIfInBounds_toArray, List.set_cons_zero, List.set_cons_succ]
            refine wpAnyH_take (i := 14) (v := ?_) (op_of rfl) (by kernel_rfl) (by kernel_rfl) (by kernel_rfl) (fun _ _ _ h => h) (Or.inl ⟨by rfl, fun w hS => ?_⟩) (by assumption) ?_
            rotate_left
            · dsimp only at hS
              go_simp
              try with_reducible rfl
            try dsimp only [Act.put]
            try simp only [List.setIfInBounds_toArray, List.set_cons_zero, List.set_cons_succ]
            refine wpAnyH_ready (rs := [4]) (by kernel_rfl) (by simp) (AllReadyH.cons (op_of rfl) (fun K hK => ?_) AllReadyH.nil)
            go_simp
            refine HL5.out.mono ?_
            rintro en wq ⟨rfl, rfl⟩
            refine hK.out _ _ (by assumption) (fun hHeld1 => ?_)
            clear hK K
            try dsimp only [Act.put]
            try simp only [List.setIfInBounds_toArray, List.set_cons_zero, List.set_cons_succ]
            refine wpAnyH_take (i := 15) (v := ?_) (op_of rfl) (by kernel_rfl) (by kernel_rfl) (by kernel_rfl) (fun _ _ _ h => h) (Or.inl ⟨by rfl, fun w hS => ?_⟩) (by assumption) ?_
            rotate_left
            · dsimp only at hS
              go_simp
              try with_reducible rfl
            try dsimp only [Act.put]
            try simp only [List.setIfInBounds_toArray, List.set_cons_zero, List.set_cons_succ]
            refine wpAnyH_take (i := 16) (v := ?_) (op_of rfl) (by kernel_rfl) (by kernel_rfl) (by kernel_rfl) (fun _ _ _ h => h) (Or.inl ⟨by rfl, fun w hS => ?_⟩) (by assumption) ?_
            rotate_left
            · dsimp only at hS
              go_simp
              try with_reducible rfl
            try dsimp only [Act.put]
            try simp only [List.setIfInBounds_toArray, List.set_cons_zero, List.set_cons_succ]
            refine wpAnyH_take (i := 17) (v := ?_) (op_of rfl) (by kernel_rfl) (by kernel_rfl) (by kernel_rfl) (fun _ _ _ h => h) (Or.inl ⟨by rfl, fun w hS => ?_⟩) (by assumption) ?_
            rotate_left
            · dsimp only at hS
              go_simp
              try with_reducible rfl
            try dsimp only [Act.put]
            try simp only [List.setIfInBounds_toArray, List.set_cons_zero, List.set_cons_succ]
            refine wpAnyH_take (i := 18) (v := ?_) (op_of rfl) (by kernel_rfl) (by kernel_rfl) (by kernel_rfl) (fun _ _ _ h => h) (Or.inl ⟨by rfl, fun w hS => ?_⟩) (by assumption) ?_
            rotate_left
            · dsimp only at hS
              go_simp
              try with_reducible rfl
            try dsimp only [Act.put]
            try simp only [List.setIfInBounds_toArray, List.set_cons_zero, List.set_cons_succ]
            refine wpAnyH_take (i := 20) (v := ?_) (op_of rfl) (by kernel_rfl) (by kernel_rfl) (by kernel_rfl) (fun _ _ _ h => h) (Or.inl ⟨by rfl, fun w hS => ?_⟩) (by assumption) ?_
            rotate_left
            · dsimp only at hS
              go_simp
              try with_reducible rfl
            try dsimp only [Act.put]
            try simp only [List.setIfInBounds_toArray, List.set_cons_zero, List.set_cons_succ]
            refine wpAnyH_take (i := 21) (v := ?_) (op_of rfl) (by kernel_rfl) (by kernel_rfl) (by kernel_rfl) (fun _ _ _ h => h) (Or.inl ⟨by rfl, fun w hS => ?_⟩) (by assumption) ?_
            rotate_left
            · dsimp only at hS
              go_simp
              try with_reducible rfl
            try dsimp only [Act.put]
            try simp only [List.setIfInBounds_toArray, List.set_cons_zero, List.set_cons_succ]
            refine wpAnyH_take (i := 22) (v := ?_) (op_of rfl) (by kernel_rfl) (by kernel_rfl) (by kernel_rfl) (fun _ _ _ h => h) (Or.inl ⟨by rfl, fun w hS => ?_⟩) (by assumption) ?_
            rotate_left
            · dsimp only at hS
              go_simp
              try with_reducible rfl
            try dsimp only [Act.put]
            try simp only [List.setIfInBounds_toArray, List.set_cons_zero, List.set_cons_succ]
            refine wpAnyH_take (i := 23) (v := ?_) (op_of rfl) (by kernel_rfl) (by kernel_rfl) (by kernel_rfl) (fun _ _ _ h => h) (Or.inl ⟨by rfl, fun w hS => ?_⟩) (by assumption) ?_
            rotate_left
            · dsimp only at hS
              go_simp
              try with_reducible rfl
            try dsimp only [Act.put]
            try simp only [List.setIfInBounds_toArray, List.set_cons_zero, List.set_cons_succ]
            refine wpAnyH_ready (rs := [19]) (by kernel_rfl) (by simp) (AllReadyH.cons (op_of rfl) (fun K hK => ?_) AllReadyH.nil)
            go_simp
            refine HE5.out.mono ?_
            rintro en wq ⟨rfl, rfl⟩
            refine hK.out _ _ (by assumption) (fun hHeld2 => ?_)
            clear hK K
            try dsimp only [Act.put]
            try simp only [List.setIfInBounds_toArray, List.set_cons_zero, List.set_cons_succ]
            refine wpAnyH_take (i := 24) (v := ?_) (op_of rfl) (by kernel_rfl) (by kernel_rfl) (by kernel_rfl) (fun _ _ _ h => h) (Or.inl ⟨by rfl, fun w hS => ?_⟩) (by assumption) ?_
            rotate_left
            · dsimp only at hS
              go_simp
              try with_reducible rfl
            try dsimp only [Act.put]
            try simp only [List.setIfInBounds_toArray, List.set_cons_zero, List.set_cons_succ]
            refine wpAnyH_take (i := 25) (v := ?_) (op_of rfl) (by kernel_rfl) (by kernel_rfl) (by kernel_rfl) (fun _ _ _ h => h) (Or.inl ⟨by rfl, fun w hS => ?_⟩) (by assumption) ?_
            rotate_left
            · dsimp only at hS
              go_simp
              try with_reducible rfl
            try dsimp only [Act.put]
            try simp only [List.setIfInBounds_toArray, List.set_cons_zero, List.set_cons_succ]
            refine wpAnyH_done (by kernel_rfl) ?_ _
            go_wp2_with fail
            go_roundw
            case rel => exact ⟨k + 1, by go_num, by omega, HBO5⟩
            case measure => simp [intOf]; omega
        · obtain ⟨_, _, _, _, hbl⟩ := HBO.out
          go_wp2_with fail
          refine (alive5_any _).mono ?_
          rintro en w9 ⟨rfl, hb9⟩
          go_wp2_with fail
          go_ret
          exact ⟨rfl, hbl.trans (hb9.mono hbl.size)⟩
end Go.Proofs.Ytbogejpjnbdfcaa
