/-
  Numbers in digits of 32 bits: Cmp.
-/
import Derived.Test.YtemalomcdiahiaaDoorNatG
namespace Go.Proofs.YtemalomcdiahiaaDoor
open Go.RowKit Go.Shelf
set_option maxRecDepth 100000
attribute [local go_sem] Oper.semAt_some

/-- What the first statement of Cmp leaves: the second number cut, in its variable; the answer's variable, 0. -/
structure CmpMem (w : World) (s : Value) (W : World) : Prop where
  below : Below w.heap.size w W
  two : Blk W w.heap.size 23 #[s]
  res : Blk W (w.heap.size + 1) 3 #[.int .i64 0]

set_option maxHeartbeats 4000000 in
theorem natCmp_any (A1 A2 : Option Addr) (xs ys : List Nat) (n1 c1 n2 c2 : Nat) (w : World) (hl1 : xs.length = n1) (hl2 : ys.length = n2) (hr1 : Ra w w.heap.size A1 xs) (hr2 : Ra w w.heap.size A2 ys)
    (hd1 : Dg xs) (hd2 : Dg ys) (hn1 : n1 ≤ 1000000) (hn2 : n2 ≤ 1000000) (hc1 : n1 ≤ c1) (hc2 : n2 ≤ c2) :
    Calls Tryd.prog 57 #[.slice A1 n1 c1, .slice A2 n2 c2] w fun e w' => e = .returned (.int .i64 (cmpI (U xs) (U ys))) ∧ Below w.heap.size w w' := by
  obtain ⟨z, hz⟩ : ∃ z, cmpI (U xs) (U ys) = z := ⟨_, rfl⟩
  rw [hz]
  have HZ := Lib.hid hz
  have hk1 := cl_can hd1
  have hk2 := cl_can hd2
  have hU1 := cl_U xs
  have hU2 := cl_U ys
  have hcl1 := cl_le xs
  have hcl2 := cl_le ys
  have sh1 := fun wz (h : Below w.heap.size w wz) => shorten_cl A1 xs n1 c1 wz hl1 ((hr1.below h (Nat.le_refl _)).more h.size) hd1 (by omega) hc1
  have sh2 := fun wz (h : Below w.heap.size w wz) => shorten_cl A2 ys n2 c2 wz hl2 ((hr2.below h (Nat.le_refl _)).more h.size) hd2 (by omega) hc2
  obtain ⟨m1, hm1⟩ : ∃ m, cl xs = m := ⟨_, rfl⟩
  obtain ⟨m2, hm2⟩ : ∃ m, cl ys = m := ⟨_, rfl⟩
  rw [hm1] at hk1 hU1 hcl1
  rw [hm2] at hk2 hU2 hcl2
  simp only [hm1] at sh1
  simp only [hm2] at sh2
  have hmn1 : m1 ≤ n1 := by omega
  have hmn2 : m2 ≤ n2 := by omega
  have HL1 : Hid ((xs.take m1).length = m1) := Lib.hid (by simp; omega)
  have HL2 : Hid ((ys.take m2).length = m2) := Lib.hid (by simp; omega)
  have HZ2 : Hid (cmpI (U (xs.take m1)) (U (ys.take m2)) = z) := Lib.hid (by rw [hU1, hU2]; exact HZ.out)
  have HC1 := Lib.hid hk1
  have HC2 := Lib.hid hk2
  clear hz HZ hk1 hk2 hU1 hU2 hl1 hl2 hm1 hm2 hcl1 hcl2
  refine calls_of_leave Tryd.func57 rfl ?_
  simp only [Tryd.ntmps57, List.size_toArray, List.length_cons, List.length_nil, Nat.reduceAdd, Nat.reduceSub, Array.replicate_succ, Array.replicate_zero, List.push_toArray, List.append_toArray, List.nil_append, List.cons_append]
  have hB0 : Below w.heap.size w ((w.alloc (.cells #[.slice A2 n2 c2] 23)).alloc (.cells #[.int .i64 0] 3)).drew := (((Below.refl _ w).alloc (Nat.le_refl _) _).alloc (by simp) _).drew
  go_upto_region 1 with (fail)
  go_cut [0] from 9 to 12 (fun a wx => a = .slice A1 m1 c1 ∧ CmpMem w (.slice A2 m2 c2) wx)
  case first =>
    go_region_with (first
      | (go_at_call 65; (with_reducible refine (sh1 _ (by assumption)).mono ?_); rintro e w' ⟨rfl, rfl⟩)
      | (go_at_call 65; (with_reducible refine (sh2 _ (by assumption)).mono ?_); rintro e w' ⟨rfl, rfl⟩))
    all_goals
      go_wp2_with fail
      go_meet
      have hbk := Blk.new (w.alloc (.cells #[.slice A2 m2 c2] 23)) 3 #[.int .i64 0]
      rw [World.size_alloc] at hbk
      exact ⟨rfl, (((Below.refl _ w).alloc (Nat.le_refl _) _).alloc (by simp) _).drew, (Blk.new w 23 #[.slice A2 m2 c2]).alloc _, hbk⟩
  case rest =>
    obtain ⟨rfl, hm⟩ := hcut
    have c2c := hm.two.cell 0
    have f2c := hm.two.frozen 0
    have HM := Lib.hid hm
    clear hm
    have cr := HM.out.res.cell 0
    have fr := HM.out.res.frozen 0
    have hci := compareInt_eq m1 m2
    rcases Nat.lt_trichotomy m1 m2 with hlt | heq | hgt
    · have hz : z = -1 := by rw [← HZ2.out, cmpI_lt (cmp_len HC1.out HC2.out (by rw [HL1.out, HL2.out]; exact hlt))]
      rw [cmpI_lt hlt] at hci
      subst hz
      have HCI := Lib.hid hci
      clear hci
      go_wp2_with fail
      refine (Tryd.cmp_Compare_int (m1 : Int) (m2 : Int) _).mono ?_
      rintro e w' ⟨rfl, rfl⟩
      rw [HCI.out]
      go_wp2_with fail
      exact leave_plain (v := .int .i64 (-1)) (by simp [results, Tryd.results57, go_sem, cr, fr]) ⟨rfl, HM.out.below.setCell (by simp) _⟩
    · subst heq
      rw [cmpI_eq rfl] at hci
      have HCI := Lib.hid hci
      clear hci
      go_wp2_with fail
      refine (Tryd.cmp_Compare_int (m1 : Int) (m1 : Int) _).mono ?_
      rintro e W0 ⟨rfl, rfl⟩
      rw [HCI.out]
      go_wp2_with fail
      refine (backw_calls A1 m1 c1 _).mono ?_
      rintro e w' ⟨rfl, rfl⟩
      have hm := HM.out
      have hs0 := hm.res.lt
      have hBa : Below w.heap.size w (W0.alloc (.cells #[.slice A1 m1 c1] 23)) := hm.below.alloc (by omega) _
      have hrA : Ra (W0.alloc (.cells #[.slice A1 m1 c1] 23)) w.heap.size A1 (xs.take m1) := (hr1.take m1).below hBa (Nat.le_refl _)
      have hgo := backw_goes Fence.wide 4 trivial rfl (by omega) W0.heap.size A1 (xs.take m1) m1 c1 _ HL1.out (hrA.more (by simp; omega)) (by omega) (by omega) ((Blk.new W0 23 #[.slice A1 m1 c1]).cell 0)
      have hm2 := hm.two.alloc (.cells #[.slice A1 m1 c1] 23)
      have hm3 := hm.res.alloc (.cells #[.slice A1 m1 c1] 23)
      have hI0 := And.intro (And.intro (hm2.cell 0) (And.intro (hm3.cell 0) (And.intro (hm3.frozen 0) (fun (j : Nat) (hj : m1 - 0 ≤ j) => (show nth (xs.take m1) j = nth (ys.take m1) j by rw [nth_out (by rw [HL1.out]; omega), nth_out (by rw [HL2.out]; omega)]))))) hBa
      have HI0 := Lib.hid hI0
      clear hI0 hm2 hm3 hm cr fr c2c f2c
      go_wp2_with fail
      refine (wpIn_wide (n := 5)).1 ?_
      refine wpIn_rangeFunc_goes rfl (by omega) (gf := 87) (lb := #[.pointer (some ⟨W0.heap.size, 0, none⟩)]) rfl trivial (enters_of Tryd.func87 (by kernel_rfl) rfl)
        hgo (bkeep_lt HL1.out (hrA.more (by simp; omega)) (by simp)) (Below.refl _ _) (fun _ => rfl)
        (fun k W => (W.cell? ⟨w.heap.size, 0, none⟩ = some (.slice A2 m1 c2) ∧ W.cell? ⟨w.heap.size + 1, 0, none⟩ = some (.int .i64 0) ∧ W.frozen? ⟨w.heap.size + 1, 0, none⟩ = false ∧ ∀ j, m1 - k ≤ j → nth (xs.take m1) j = nth (ys.take m1) j) ∧ Below w.heap.size w W)
        (fun c k W => (c = .ret ∧ W.cell? ⟨w.heap.size + 1, 0, none⟩ = some (.int .i64 z)) ∧ Below w.heap.size w W)
        (OwnFrom.and (Own.from (fun s X Y row hs hg hr => ⟨cell_kept hs.1 hg hr, cell_kept hs.2.1 hg hr, (frozen_kept hs.2.1 hg hr).trans hs.2.2.1, hs.2.2.2⟩) _) (ownFrom_below (Nat.le_refl _) (by simp; omega)))
        (fun c => OwnFrom.and (Own.from (fun s X Y row hs hg hr => ⟨hs.1, cell_kept hs.2 hg hr⟩) _) (ownFrom_below (Nat.le_refl _) (by simp; omega)))
        HI0.out ?round ?done ?stop
      case round =>
        intro l k W hk _
        simp only [benc]
        gi_wp2
        refine ⟨trivial, ?_⟩
        rintro W ⟨⟨h2, h3, h4, h5⟩, hB⟩
        obtain ⟨p, hp⟩ : ∃ p, m1 - 1 - k = p := ⟨_, rfl⟩
        have hpm : p < m1 := by omega
        rw [hp]
        have HP := Lib.hid hp
        obtain ⟨b2, o2, hA2, _, cy⟩ := ((hr2.take m1).below hB (Nat.le_refl _)).at_ (k := p) (by rw [HL2.out]; exact hpm)
        subst hA2
        have hxp := HC1.out.1.nth p
        have hyp := HC2.out.1.nth p
        have H5 := Lib.hid h5
        clear h5 hp
        gi_wp2_with fail
        refine ⟨trivial, (CallsIn.inRound l (callsIn_wide.2 (compare32 (nth (xs.take m1) p) (nth (ys.take m1) p) _ hxp hyp))).mono ?_⟩
        rintro e W2 ⟨rfl, rfl⟩
        by_cases heq : nth (xs.take m1) p = nth (ys.take m1) p
        · rw [cmpI_eq heq]
          have HE := Lib.hid heq
          clear heq
          gi_wp2
          refine ⟨KeepsFrom.refl _ _, Same.refl _ _, ⟨h2, h3, h4, fun j hj => ?_⟩, hB⟩
          rcases Nat.lt_or_ge p j with h | h
          · exact H5.out j (by have := HP.out; omega)
          · rw [show j = p by have := HP.out; omega]; exact HE.out
        · have hz : cmpI (nth (xs.take m1) p) (nth (ys.take m1) p) = z := by rw [← HZ2.out, cmp_at HC1.out.1 HC2.out.1 HL1.out HL2.out hpm (fun j hj => H5.out j (by have := HP.out; omega)) heq]
          have hz0 : (z == 0) = false ∧ (z != 0) = true := by
            rcases Nat.lt_or_gt_of_ne heq with h | h
            · rw [cmpI_lt h] at hz; subst hz; exact ⟨rfl, rfl⟩
            · rw [cmpI_gt h] at hz; subst hz; exact ⟨rfl, rfl⟩
          have hzn : ¬ z = 0 := by intro h; rw [h] at hz0; simp at hz0
          obtain ⟨hz1, hz2⟩ := hz0
          rw [hz]
          have HZZ := Lib.hid hz
          clear hz heq
          gi_wp2
          exact ⟨(KeepsOthers.setCell _ _ _).from _, ⟨rfl, World.cell?_setCell_same' _ _ _ (by rw [h3]; rfl)⟩, hB.setCell (by simp) _⟩
      case done =>
        rintro D W hD ⟨⟨h2, h3, h4, h5⟩, hB⟩ hK
        have hz : z = 0 := by
          rw [← HZ2.out]
          refine cmpI_eq (congrArg U (List.ext_getElem (by rw [HL1.out, HL2.out]) fun i h1 h2 => ?_))
          have := h5 i (by omega)
          rwa [nth_in h1, nth_in h2] at this
        subst hz
        have hD2 : w.heap.size ≤ D := Nat.le_trans hBa.size hD
        have hK' := (KeepsOthers.setCell W ⟨w.heap.size + 1, 0, none⟩ (.int .i64 0)).same D _ hK rfl
        have h3' := World.cell?_setCell_same' W ⟨w.heap.size + 1, 0, none⟩ (.int .i64 0) (by rw [h3]; rfl)
        go_wp2_with fail
        exact leave_mark (v := .int .i64 0) hK' (by simp [results, Tryd.results57, go_sem, mark_cell hK' h3']) ⟨rfl, mark_below (hB.setCell (by simp) _) hK' hD2⟩
      case stop =>
        rintro D c k W hD _ ⟨⟨rfl, h3⟩, hB⟩ hK
        have hD2 : w.heap.size ≤ D := Nat.le_trans hBa.size hD
        refine wpIn_wide.2 ?_
        go_wp2_with fail
        exact leave_mark (v := .int .i64 z) hK (by simp [results, Tryd.results57, go_sem, mark_cell hK h3]) ⟨rfl, mark_below hB hK hD2⟩
    · have hz : z = 1 := by rw [← HZ2.out, cmpI_gt (cmp_len HC2.out HC1.out (by rw [HL1.out, HL2.out]; exact hgt))]
      rw [cmpI_gt hgt] at hci
      subst hz
      have HCI := Lib.hid hci
      clear hci
      go_wp2_with fail
      refine (Tryd.cmp_Compare_int (m1 : Int) (m2 : Int) _).mono ?_
      rintro e w' ⟨rfl, rfl⟩
      rw [HCI.out]
      go_wp2_with fail
      exact leave_plain (v := .int .i64 1) (by simp [results, Tryd.results57, go_sem, cr, fr]) ⟨rfl, HM.out.below.setCell (by simp) _⟩
end Go.Proofs.YtemalomcdiahiaaDoor
