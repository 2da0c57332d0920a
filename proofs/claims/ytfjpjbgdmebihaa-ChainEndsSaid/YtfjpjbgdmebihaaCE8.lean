/-
  For any state that may be: all behind a thread have its end, live just if it does, and would close a ring with it; the end waits for nobody. No conditions.
-/
import Derived.Test.YtfjpjbgdmebihaaCE7
import Derived.Test.YtfjpjbgdmebihaaRows
import Derived.Below
import Derived.ProofKit
import Derived.OpenShut
import Derived.Carry
import Derived.Lib.SmallJoins
import Derived.Deep.Slices
import Derived.Deep.Strs
import Derived.Lib.AppendStr
import Derived.Test.YtfjpjbgdmebihaaChecked
import Derived.ChangeMaps5
namespace Go.Proofs.Ytfjpjbgdmebihaa
open Go.RowKit
set_option maxRecDepth 100000
/-- Between two rounds: a boxed state, and a row that is read. -/
structure El16 (w : World) (S : Sv14) (A0 A1 A2 A3 A4 : Option Addr) (n0 n1 n2 n3 n4 c0 c1 c2 c3 c4 : Nat) (sq : Int) (A : Option Addr) (xs : List Nat) (W : World) : Prop where
  b : Bx14 w S A0 A1 A2 A3 A4 n0 n1 n2 n3 n4 c0 c1 c2 c3 c4 sq W
  r : Rd W W.heap.size A xs
theorem El16.step {w : World} {S : Sv14} {A0 A1 A2 A3 A4 : Option Addr} {n0 n1 n2 n3 n4 c0 c1 c2 c3 c4 : Nat} {sq : Int} {A : Option Addr} {xs : List Nat} {W W' : World} (h : El16 w S A0 A1 A2 A3 A4 n0 n1 n2 n3 n4 c0 c1 c2 c3 c4 sq A xs W) (hb : Below W.heap.size W W') : El16 w S A0 A1 A2 A3 A4 n0 n1 n2 n3 n4 c0 c1 c2 c3 c4 sq A xs W' :=
  ⟨h.b.step hb, (h.r.below hb (Nat.le_refl _)).more hb.size⟩
theorem El16.cell {w : World} {S : Sv14} {A0 A1 A2 A3 A4 : Option Addr} {n0 n1 n2 n3 n4 c0 c1 c2 c3 c4 : Nat} {sq : Int} {g o : Nat} {xs : List Nat} {W : World} (h : El16 w S A0 A1 A2 A3 A4 n0 n1 n2 n3 n4 c0 c1 c2 c3 c4 sq (some ⟨g, o, none⟩) xs W) {k : Nat} (hk : k < xs.length) : W.cell? ⟨g, o + k, none⟩ = some (.int .i64 ((nth xs k : Nat) : Int)) := by
  obtain ⟨g2, o2, h1, _, h2⟩ := h.r.at_ hk
  injection h1 with h1
  injection h1 with e1 e2
  subst e1 e2
  exact h2
set_option maxHeartbeats 2000000 in
theorem lends16_no1 (A0 A1 A2 A3 A4 : Option Addr) (n0 n1 n2 n3 n4 c0 c1 c2 c3 c4 : Nat) (sq : Int) (S : Sv14) (w : World) (hn : ¬ Small14 n0 n1 n2 n3 n4) :
    Calls Try.prog 4 #[(.agg #[.slice A0 n0 c0, .slice A1 n1 c1, .slice A2 n2 c2, .slice A3 n3 c3, .slice A4 n4 c4, .int .i64 sq])] w fun e w' => e = .returned (.bool true) ∧ Below w.heap.size w w' := by
  have hb0 := b1' w (.cells #[.slice A0 n0 c0, .slice A1 n1 c1, .slice A2 n2 c2, .slice A3 n3 c3, .slice A4 n4 c4, .int .i64 sq] 28)
  have hk0 := Blk.new w 28 #[.slice A0 n0 c0, .slice A1 n1 c1, .slice A2 n2 c2, .slice A3 n3 c3, .slice A4 n4 c4, .int .i64 sq]
  obtain ⟨W0, hW0⟩ : ∃ W, w.alloc (.cells #[.slice A0 n0 c0, .slice A1 n1 c1, .slice A2 n2 c2, .slice A3 n3 c3, .slice A4 n4 c4, .int .i64 sq] 28) = W := ⟨_, rfl⟩
  rw [hW0] at hb0 hk0
  have p0 := hk0.cell 0
  have p1 := hk0.cell 1
  have p2 := hk0.cell 2
  have p3 := hk0.cell 3
  have p4 := hk0.cell 4
  have p5 := hk0.cell 5
  have HB0 := Lib.hid hb0
  have HC := Lib.hid (fun W => small14 A0 A1 A2 A3 A4 n0 n1 n2 n3 n4 c0 c1 c2 c3 c4 sq false W (by simp [hn]))
  clear hb0 hk0 hn
  go_enter Try.func4, Try.ntmps4
  go_wp2_with fail
  refine (HC.out _).mono ?_
  rintro e u1 ⟨rfl, hb1⟩
  have HB1 := Lib.hid (HB0.out.trans (hb1.mono HB0.out.size))
  clear hb1 HC
  go_wp2_with fail
  refine (alive16_any _).mono ?_
  rintro e u2 ⟨rfl, hb2⟩
  have HB2 := Lib.hid (HB1.out.trans (hb2.mono HB1.out.size))
  clear hb2
  go_wp2_with fail
  go_ret
  exact ⟨rfl, HB2.out⟩
set_option maxHeartbeats 2000000 in
theorem lends16_no2 (A0 A1 A2 A3 A4 : Option Addr) (n0 n1 n2 n3 n4 c0 c1 c2 c3 c4 : Nat) (sq : Int) (S : Sv14) (w : World) (hs : SA14 w S A0 A1 A2 A3 A4 n0 n1 n2 n3 n4 c0 c1 c2 c3 c4 sq) (hn : Small14 n0 n1 n2 n3 n4) (hf : ¬ Fine14 S) :
    Calls Try.prog 4 #[(.agg #[.slice A0 n0 c0, .slice A1 n1 c1, .slice A2 n2 c2, .slice A3 n3 c3, .slice A4 n4 c4, .int .i64 sq])] w fun e w' => e = .returned (.bool true) ∧ Below w.heap.size w w' := by
  have hx0 := Bx14.new hs
  have hxn := hx0.step (Below.refl _ _).drew
  obtain ⟨W1, hW1⟩ : ∃ W, w.alloc (.cells #[.slice A0 n0 c0, .slice A1 n1 c1, .slice A2 n2 c2, .slice A3 n3 c3, .slice A4 n4 c4, .int .i64 sq] 28) = W := ⟨_, rfl⟩
  rw [hW1] at hx0 hxn
  have HX0 := Lib.hid hx0
  have p0 := hx0.x.cell 0
  have p1 := hx0.x.cell 1
  have p2 := hx0.x.cell 2
  have p3 := hx0.x.cell 3
  have p4 := hx0.x.cell 4
  have p5 := hx0.x.cell 5
  have HC := Lib.hid (fun W => small14 A0 A1 A2 A3 A4 n0 n1 n2 n3 n4 c0 c1 c2 c3 c4 sq true W (by simp [hn]))
  have HD := Lib.hid (fun W h => rfine14 (.agg #[.slice A0 n0 c0, .slice A1 n1 c1, .slice A2 n2 c2, .slice A3 n3 c3, .slice A4 n4 c4, .int .i64 sq]) S false W h (by simp [hf]))
  clear hs hx0 hxn hn hf
  go_enter Try.func4, Try.ntmps4
  go_wp2_with fail
  refine (HC.out _).mono ?_
  rintro e u1 ⟨rfl, hb1⟩
  have HX1 := Lib.hid (HX0.out.step hb1)
  have q0 := HX1.out.x.cell 0
  have q1 := HX1.out.x.cell 1
  have q2 := HX1.out.x.cell 2
  have q3 := HX1.out.x.cell 3
  have q4 := HX1.out.x.cell 4
  have q5 := HX1.out.x.cell 5
  clear hb1 HC
  go_wp2_with fail
  refine (HD.out _ HX1.out.st).mono ?_
  rintro e u2 ⟨rfl, hb2⟩
  have HX2 := Lib.hid (HX1.out.step hb2)
  clear hb2 HD
  go_wp2_with fail
  refine (alive16_any _).mono ?_
  rintro e u3 ⟨rfl, hb3⟩
  have HX3 := Lib.hid (HX2.out.step hb3)
  clear hb3
  go_wp2_with fail
  go_ret
  exact ⟨rfl, HX3.out.b⟩
set_option maxHeartbeats 16000000 in
theorem lends16_yes (A0 A1 A2 A3 A4 : Option Addr) (n0 n1 n2 n3 n4 c0 c1 c2 c3 c4 : Nat) (sq : Int) (S : Sv14) (w : World) (hs : SA14 w S A0 A1 A2 A3 A4 n0 n1 n2 n3 n4 c0 c1 c2 c3 c4 sq) (hn : Small14 n0 n1 n2 n3 n4) (hf : Fine14 S) :
    Calls Try.prog 4 #[(.agg #[.slice A0 n0 c0, .slice A1 n1 c1, .slice A2 n2 c2, .slice A3 n3 c3, .slice A4 n4 c4, .int .i64 sq])] w fun e w' => e = .returned (.bool true) ∧ Below w.heap.size w w' := by
  have hx0 := Bx14.new hs
  have hxn := hx0.step (Below.refl _ _).drew
  obtain ⟨W1, hW1⟩ : ∃ W, w.alloc (.cells #[.slice A0 n0 c0, .slice A1 n1 c1, .slice A2 n2 c2, .slice A3 n3 c3, .slice A4 n4 c4, .int .i64 sq] 28) = W := ⟨_, rfl⟩
  rw [hW1] at hx0 hxn
  have HX0 := Lib.hid hx0
  have p0 := hx0.x.cell 0
  have p1 := hx0.x.cell 1
  have p2 := hx0.x.cell 2
  have p3 := hx0.x.cell 3
  have p4 := hx0.x.cell 4
  have p5 := hx0.x.cell 5
  have HC := Lib.hid (fun W => small14 A0 A1 A2 A3 A4 n0 n1 n2 n3 n4 c0 c1 c2 c3 c4 sq true W (by simp [hn]))
  have HD := Lib.hid (fun W h => rfine14 (.agg #[.slice A0 n0 c0, .slice A1 n1 c1, .slice A2 n2 c2, .slice A3 n3 c3, .slice A4 n4 c4, .int .i64 sq]) S true W h (by simp [hf]))
  have HF := Lib.hid hf
  have HL2 := Lib.hid hs.l2
  have hnb := hs.m2
  clear hs hx0 hxn hn hf
  go_enter Try.func4, Try.ntmps4
  go_wp2_with fail
  refine (HC.out _).mono ?_
  rintro e u1 ⟨rfl, hb1⟩
  have HX1 := Lib.hid (HX0.out.step hb1)
  have q0 := HX1.out.x.cell 0
  have q1 := HX1.out.x.cell 1
  have q2 := HX1.out.x.cell 2
  have q3 := HX1.out.x.cell 3
  have q4 := HX1.out.x.cell 4
  have q5 := HX1.out.x.cell 5
  clear hb1 HC hW1
  go_wp2_with fail
  refine (HD.out _ HX1.out.st).mono ?_
  rintro e u2 ⟨rfl, hb2⟩
  have HX2 := Lib.hid (HX1.out.step hb2)
  clear hb2 HD HX0 HX1 p0 p1 p2 p3 p4 p5 q0 q1 q2 q3 q4 q5
  go_wp2_with fail
  go_loopw [3] (fun v wr => ∃ k : Nat, v = .int .i64 (k : Int) ∧ k ≤ n2 ∧ Hid (Bx14 w S A0 A1 A2 A3 A4 n0 n1 n2 n3 n4 c0 c1 c2 c3 c4 sq wr)) (fun v _ => n2 - (intOf v).toNat)
  case atStart => exact ⟨0, rfl, by omega, HX2⟩
  case round =>
    clear HX2
    obtain ⟨k, rfl, hk, HW⟩ := hrel
    by_cases hkn : k < n2
    · obtain ⟨ga, oa, hAa, hab, hq⟩ := Lq.at_ len14H (by omega) HW.out.s.r2 (show k < S.H.length by rw [HL2.out]; exact hkn)
      have t2 : wr.cell? ⟨w.heap.size, 2, none⟩ = some (.slice (some ⟨ga, oa, none⟩) n2 c2) := by rw [← hAa]; exact HW.out.x.cell 2
      obtain ⟨x, hx⟩ : ∃ x, gt14 S.H k = x := ⟨_, rfl⟩
      rw [hx] at hq
      obtain ⟨xz, xf, xc, xq, xu⟩ := x
      have e0 : wr.cell? ⟨ga, oa + k * 5, none⟩ = some (.int .i64 xz) := hq 0 _ rfl
      have HXE := Lib.hid hx
      have i0 : (0 : Int) ≤ (k : Int) := by omega
      have i1 : (k : Int) < (n2 : Int) := by omega
      clear hq hx hab hAa
      by_cases z0 : xz = 0
      · subst z0
        go_wp2_with fail
        go_roundw
        case rel => exact ⟨k + 1, by go_num, by omega, HW⟩
        case measure => simp [intOf]; omega
      · have z0b : (xz == 0) = false := by simp [z0]
        have hu : us14 usH S.H (k : Int) = true := by rw [us14_nat, HXE.out]; simp [usH, z0]
        obtain ⟨li, hli⟩ := tl16_ex HF.out (k : Int)
        obtain ⟨he1, he2, _⟩ := hli.en hu
        obtain ⟨d, hd⟩ : ∃ d : Nat, lst16 li = d := ⟨_, rfl⟩
        rw [hd] at he1
        rw [he1] at he2
        have HE := Lib.hid he1
        have HNX := Lib.hid he2
        have HTI := Lib.hid hli
        have hce := end16 (.agg #[.slice A0 n0 c0, .slice A1 n1 c1, .slice A2 n2 c2, .slice A3 n3 c3, .slice A4 n4 c4, .int .i64 sq]) S (k : Int) li wr HW.out.st HF.out hli
        rw [he1] at hce
        have HCE := Lib.hid hce
        clear he1 he2 hd hli hu z0 hce
        go_upto_region 7 with (fail)
        have a0 := HW.out.x.cell 0
        have a1 := HW.out.x.cell 1
        have a2 := HW.out.x.cell 2
        have a3 := HW.out.x.cell 3
        have a4 := HW.out.x.cell 4
        have a5 := HW.out.x.cell 5
        clear t2 e0
        go_wp2_with fail
        refine HCE.out.mono ?_
        rintro e u3 ⟨rfl, hb3⟩
        have HX3 := Lib.hid (HW.out.step hb3)
        have b0 := HX3.out.x.cell 0
        have b1 := HX3.out.x.cell 1
        have b2 := HX3.out.x.cell 2
        have b3 := HX3.out.x.cell 3
        have b4 := HX3.out.x.cell 4
        have b5 := HX3.out.x.cell 5
        have hcn := next16 (.agg #[.slice A0 n0 c0, .slice A1 n1 c1, .slice A2 n2 c2, .slice A3 n3 c3, .slice A4 n4 c4, .int .i64 sq]) S (d : Int) u3 HX3.out.st
        rw [HNX.out] at hcn
        have HCN := Lib.hid hcn
        have hd0 : ¬ ((d : Nat) : Int) < 0 := by omega
        clear hb3 HCE HW a0 a1 a2 a3 a4 a5 hcn
        go_wp2_with fail
        refine HCN.out.mono ?_
        rintro e u4 ⟨rfl, hb4⟩
        have HX4 := Lib.hid (HX3.out.step hb4)
        have c0_ := HX4.out.x.cell 0
        have c1_ := HX4.out.x.cell 1
        have c2_ := HX4.out.x.cell 2
        have c3_ := HX4.out.x.cell 3
        have c4_ := HX4.out.x.cell 4
        have c5_ := HX4.out.x.cell 5
        have HCB := Lib.hid (behind16 (.agg #[.slice A0 n0 c0, .slice A1 n1 c1, .slice A2 n2 c2, .slice A3 n3 c3, .slice A4 n4 c4, .int .i64 sq]) S (k : Int) u4 HX4.out.st HF.out)
        clear hb4 HCN HX3 b0 b1 b2 b3 b4 b5
        go_wp2_with fail
        refine HCB.out.mono ?_
        rintro e u5 ⟨A, c, rfl, hr, hb5⟩
        obtain ⟨m, hm⟩ : ∃ m, (bh16 S (k : Int) false).length = m := ⟨_, rfl⟩
        have HM := Lib.hid hm
        have hmn : m ≤ 1000 := by have := bh16_len S (k : Int) false; have := HL2.out; omega
        have HX5 : Hid (El16 w S A0 A1 A2 A3 A4 n0 n1 n2 n3 n4 c0 c1 c2 c3 c4 sq A (bh16 S (k : Int) false) u5) := Lib.hid ⟨HX4.out.step hb5, hr⟩
        rw [hm]
        clear hb5 hr hm HCB HX4 c0_ c1_ c2_ c3_ c4_ c5_
        go_wp2_with fail
        go_loopw [6] (fun v wx => ∃ q : Nat, v = .int .i64 (q : Int) ∧ q ≤ m ∧ Hid (El16 w S A0 A1 A2 A3 A4 n0 n1 n2 n3 n4 c0 c1 c2 c3 c4 sq A (bh16 S (k : Int) false) wx)) (fun v _ => m - (intOf v).toNat)
        case atStart => exact ⟨0, rfl, by omega, HX5⟩
        case round =>
          clear HX5
          obtain ⟨q, rfl, hqm, HQ⟩ := hrel
          by_cases hqn : q < m
          · obtain ⟨x, hxk⟩ : ∃ x, nth (bh16 S (k : Int) false) q = x := ⟨_, rfl⟩
            have HXK := Lib.hid hxk
            have HKL : Hid (q < (bh16 S (k : Int) false).length) := Lib.hid (by rw [HM.out]; exact hqn)
            obtain ⟨g, o, hA, _, _⟩ := HQ.out.r.at_ HKL.out
            subst hA
            have hmem : x ∈ bh16 S (k : Int) false := by rw [← hxk, nth_in HKL.out]; exact List.getElem_mem _
            obtain ⟨lx, hlx⟩ := tl16_ex HF.out (x : Int)
            obtain ⟨_, y, hy, hky⟩ := (bhb16_chain HF.out hlx).1 (bh16_mem.1 hmem).2
            obtain rfl : k = y := by omega
            have hen : en16 lx = ((d : Nat) : Int) := by rw [← HE.out]; exact (hlx.ends HF.out hy HTI.out).symm
            have HEX : Hid (∀ W (h : Bx14 w S A0 A1 A2 A3 A4 n0 n1 n2 n3 n4 c0 c1 c2 c3 c4 sq W), Calls Try.prog 13 #[(.agg #[.slice A0 n0 c0, .slice A1 n1 c1, .slice A2 n2 c2, .slice A3 n3 c3, .slice A4 n4 c4, .int .i64 sq]), .int .i64 (x : Int)] W fun e w' => e = .returned (.int .i64 (d : Int)) ∧ Below W.heap.size W w') := Lib.hid (fun W h => by
              have h1 := end16 (.agg #[.slice A0 n0 c0, .slice A1 n1 c1, .slice A2 n2 c2, .slice A3 n3 c3, .slice A4 n4 c4, .int .i64 sq]) S (x : Int) lx W h.st HF.out hlx
              rwa [hen] at h1)
            have HLX : Hid (∀ W (h : Bx14 w S A0 A1 A2 A3 A4 n0 n1 n2 n3 n4 c0 c1 c2 c3 c4 sq W), Calls Try.prog 16 #[(.agg #[.slice A0 n0 c0, .slice A1 n1 c1, .slice A2 n2 c2, .slice A3 n3 c3, .slice A4 n4 c4, .int .i64 sq]), .int .i64 (x : Int)] W fun e w' => e = .returned (.bool (lv16 S (d : Int))) ∧ Below W.heap.size W w') := Lib.hid (fun W h => by
              have h1 := lives16 (.agg #[.slice A0 n0 c0, .slice A1 n1 c1, .slice A2 n2 c2, .slice A3 n3 c3, .slice A4 n4 c4, .int .i64 sq]) S (x : Int) lx W h.st HF.out hlx
              rwa [hen] at h1)
            have HLI : Hid (∀ W (h : Bx14 w S A0 A1 A2 A3 A4 n0 n1 n2 n3 n4 c0 c1 c2 c3 c4 sq W), Calls Try.prog 16 #[(.agg #[.slice A0 n0 c0, .slice A1 n1 c1, .slice A2 n2 c2, .slice A3 n3 c3, .slice A4 n4 c4, .int .i64 sq]), .int .i64 (k : Int)] W fun e w' => e = .returned (.bool (lv16 S (d : Int))) ∧ Below W.heap.size W w') := Lib.hid (fun W h => by
              have h1 := lives16 (.agg #[.slice A0 n0 c0, .slice A1 n1 c1, .slice A2 n2 c2, .slice A3 n3 c3, .slice A4 n4 c4, .int .i64 sq]) S (k : Int) li W h.st HF.out HTI.out
              rwa [HE.out] at h1)
            have HCX := Lib.hid (fun W (h : Bx14 w S A0 A1 A2 A3 A4 n0 n1 n2 n3 n4 c0 c1 c2 c3 c4 sq W) => closes16 (.agg #[.slice A0 n0 c0, .slice A1 n1 c1, .slice A2 n2 c2, .slice A3 n3 c3, .slice A4 n4 c4, .int .i64 sq]) S (k : Int) (x : Int) lx W h.st HF.out hlx true (by simp only [true_iff]; exact ⟨k, hy, rfl⟩))
            have j0 : (0 : Int) ≤ (q : Int) := by omega
            have j1 : (q : Int) < (m : Int) := by omega
            clear hmem hlx hy hky hen hxk
            go_wp2_with fail
            have HXN : Hid (El16 w S A0 A1 A2 A3 A4 n0 n1 n2 n3 n4 c0 c1 c2 c3 c4 sq (some ⟨g, o, none⟩) (bh16 S ((k : Nat) : Int) false) wr.drew) := Lib.hid (HQ.out.step (Below.refl _ _).drew)
            clear HQ
            obtain ⟨wn, hwn⟩ : ∃ W, wr.drew = W := ⟨_, rfl⟩
            rw [hwn] at HXN
            go_wp2_with fail
            refine wp_region_held_drew (S := El16 w S A0 A1 A2 A3 A4 n0 n1 n2 n3 n4 c0 c1 c2 c3 c4 sq (some ⟨g, o, none⟩) (bh16 S ((k : Nat) : Int) false)) (by kernel_rfl) (by rw [hwn]; exact HXN.out) (fun hHeld => ?_)
            rw [hwn] at hHeld ⊢
            clear hwn
            have HBS := HXN
            refine tk 0 (v := ?_) (fun W hS => ?_) ?_
            rotate_left
            · try dsimp only at hS
              have z0 := hS.b.x.cell 0
              have z1 := hS.b.x.cell 1
              have z2 := hS.b.x.cell 2
              have z3 := hS.b.x.cell 3
              have z4 := hS.b.x.cell 4
              have z5 := hS.b.x.cell 5
              go_simp
              try with_reducible rfl
            (try dsimp only [Act.put]); try simp only [pt1, pt2, pt3]
            refine tk 1 (v := ?_) (fun W hS => ?_) ?_
            rotate_left
            · (go_simp; try with_reducible rfl)
            (try dsimp only [Act.put]); try simp only [pt1, pt2, pt3]
            refine tk 2 (v := ?_) (fun W hS => ?_) ?_
            rotate_left
            · (go_simp; try with_reducible rfl)
            (try dsimp only [Act.put]); try simp only [pt1, pt2, pt3]
            refine tk 3 (v := ?_) (fun W hS => ?_) ?_
            rotate_left
            · (go_simp; try with_reducible rfl)
            (try dsimp only [Act.put]); try simp only [pt1, pt2, pt3]
            refine tk 4 (v := ?_) (fun W hS => ?_) ?_
            rotate_left
            · try dsimp only at hS
              have z0 := hS.cell HKL.out
              rw [HXK.out] at z0
              go_simp
              try with_reducible rfl
            (try dsimp only [Act.put]); try simp only [pt1, pt2, pt3]
            refine tk 6 (v := ?_) (fun W hS => ?_) ?_
            rotate_left
            · (go_simp; try with_reducible rfl)
            (try dsimp only [Act.put]); try simp only [pt1, pt2, pt3]
            refine rdy 5 (fun K hK => ?_)
            have HBS0 := HBS
            go_simp
            refine (HEX.out _ HBS0.out.b).mono ?_
            rintro e wn ⟨rfl, hb⟩
            have HBS := Lib.hid (HBS0.out.step hb)
            clear hb HBS0
            refine hK.out _ _ HBS.out (fun hHeld => ?_)
            clear hK K
            (try dsimp only [Act.put]); try simp only [pt1, pt2, pt3]
            refine tk 7 (v := ?_) (fun W hS => ?_) ?_
            rotate_left
            · (go_simp; try with_reducible rfl)
            (try dsimp only [Act.put]); try simp only [pt1, pt2, pt3]
            refine tk 8 (v := ?_) (fun W hS => ?_) ?_
            rotate_left
            · (go_simp; try with_reducible rfl)
            (try dsimp only [Act.put]); try simp only [pt1, pt2, pt3]
            refine tk 9 (v := ?_) (fun W hS => ?_) ?_
            rotate_left
            · try dsimp only at hS
              have z0 := hS.b.x.cell 0
              have z1 := hS.b.x.cell 1
              have z2 := hS.b.x.cell 2
              have z3 := hS.b.x.cell 3
              have z4 := hS.b.x.cell 4
              have z5 := hS.b.x.cell 5
              go_simp
              try with_reducible rfl
            (try dsimp only [Act.put]); try simp only [pt1, pt2, pt3]
            refine tk 10 (v := ?_) (fun W hS => ?_) ?_
            rotate_left
            · (go_simp; try with_reducible rfl)
            (try dsimp only [Act.put]); try simp only [pt1, pt2, pt3]
            refine tk 11 (v := ?_) (fun W hS => ?_) ?_
            rotate_left
            · (go_simp; try with_reducible rfl)
            (try dsimp only [Act.put]); try simp only [pt1, pt2, pt3]
            refine tk 12 (v := ?_) (fun W hS => ?_) ?_
            rotate_left
            · (go_simp; try with_reducible rfl)
            (try dsimp only [Act.put]); try simp only [pt1, pt2, pt3]
            refine tk 13 (v := ?_) (fun W hS => ?_) ?_
            rotate_left
            · try dsimp only at hS
              have z0 := hS.cell HKL.out
              rw [HXK.out] at z0
              go_simp
              try with_reducible rfl
            (try dsimp only [Act.put]); try simp only [pt1, pt2, pt3]
            refine tk 15 (v := ?_) (fun W hS => ?_) ?_
            rotate_left
            · try dsimp only at hS
              have z0 := hS.b.x.cell 0
              have z1 := hS.b.x.cell 1
              have z2 := hS.b.x.cell 2
              have z3 := hS.b.x.cell 3
              have z4 := hS.b.x.cell 4
              have z5 := hS.b.x.cell 5
              go_simp
              try with_reducible rfl
            (try dsimp only [Act.put]); try simp only [pt1, pt2, pt3]
            refine tk 16 (v := ?_) (fun W hS => ?_) ?_
            rotate_left
            · (go_simp; try with_reducible rfl)
            (try dsimp only [Act.put]); try simp only [pt1, pt2, pt3]
            refine rdy 14 (fun K hK => ?_)
            have HBS0 := HBS
            go_simp
            refine (HLX.out _ HBS0.out.b).mono ?_
            rintro e wn ⟨rfl, hb⟩
            have HBS := Lib.hid (HBS0.out.step hb)
            clear hb HBS0
            refine hK.out _ _ HBS.out (fun hHeld => ?_)
            clear hK K
            (try dsimp only [Act.put]); try simp only [pt1, pt2, pt3]
            refine rdy 17 (fun K hK => ?_)
            have HBS0 := HBS
            go_simp
            refine (HLI.out _ HBS0.out.b).mono ?_
            rintro e wn ⟨rfl, hb⟩
            have HBS := Lib.hid (HBS0.out.step hb)
            clear hb HBS0
            refine hK.out _ _ HBS.out (fun hHeld => ?_)
            clear hK K
            (try dsimp only [Act.put]); try simp only [pt1, pt2, pt3]
            refine tk 18 (v := ?_) (fun W hS => ?_) ?_
            rotate_left
            · (go_simp; try with_reducible rfl)
            (try dsimp only [Act.put]); try simp only [pt1, pt2, pt3]
            refine tk 19 (v := ?_) (fun W hS => ?_) ?_
            rotate_left
            · (go_simp; try with_reducible rfl)
            (try dsimp only [Act.put]); try simp only [pt1, pt2, pt3]
            refine tk 20 (v := ?_) (fun W hS => ?_) ?_
            rotate_left
            · (go_simp; try with_reducible rfl)
            (try dsimp only [Act.put]); try simp only [pt1, pt2, pt3]
            refine tk 21 (v := ?_) (fun W hS => ?_) ?_
            rotate_left
            · try dsimp only at hS
              have z0 := hS.b.x.cell 0
              have z1 := hS.b.x.cell 1
              have z2 := hS.b.x.cell 2
              have z3 := hS.b.x.cell 3
              have z4 := hS.b.x.cell 4
              have z5 := hS.b.x.cell 5
              go_simp
              try with_reducible rfl
            (try dsimp only [Act.put]); try simp only [pt1, pt2, pt3]
            refine tk 22 (v := ?_) (fun W hS => ?_) ?_
            rotate_left
            · (go_simp; try with_reducible rfl)
            (try dsimp only [Act.put]); try simp only [pt1, pt2, pt3]
            refine tk 23 (v := ?_) (fun W hS => ?_) ?_
            rotate_left
            · (go_simp; try with_reducible rfl)
            (try dsimp only [Act.put]); try simp only [pt1, pt2, pt3]
            refine tk 24 (v := ?_) (fun W hS => ?_) ?_
            rotate_left
            · (go_simp; try with_reducible rfl)
            (try dsimp only [Act.put]); try simp only [pt1, pt2, pt3]
            refine tk 25 (v := ?_) (fun W hS => ?_) ?_
            rotate_left
            · (go_simp; try with_reducible rfl)
            (try dsimp only [Act.put]); try simp only [pt1, pt2, pt3]
            refine tk 26 (v := ?_) (fun W hS => ?_) ?_
            rotate_left
            · try dsimp only at hS
              have z0 := hS.cell HKL.out
              rw [HXK.out] at z0
              go_simp
              try with_reducible rfl
            (try dsimp only [Act.put]); try simp only [pt1, pt2, pt3]
            refine rdy 27 (fun K hK => ?_)
            have HBS0 := HBS
            go_simp
            refine (HCX.out _ HBS0.out.b).mono ?_
            rintro e wn ⟨rfl, hb⟩
            have HBS := Lib.hid (HBS0.out.step hb)
            clear hb HBS0
            refine hK.out _ _ HBS.out (fun hHeld => ?_)
            clear hK K
            (try dsimp only [Act.put]); try simp only [pt1, pt2, pt3]
            refine tk 28 (v := ?_) (fun W hS => ?_) ?_
            rotate_left
            · (go_simp; try with_reducible rfl)
            (try dsimp only [Act.put]); try simp only [pt1, pt2, pt3]
            refine tk 29 (v := ?_) (fun W hS => ?_) ?_
            rotate_left
            · (go_simp; try with_reducible rfl)
            (try dsimp only [Act.put]); try simp only [pt1, pt2, pt3]
            refine wpAnyH_done (by kernel_rfl) ?_ _
            clear hHeld
            have HQ := HBS
            clear HBS HXN HEX HLX HLI HCX
            go_wp2_with fail
            go_roundw
            case rel => exact ⟨q + 1, by go_num, by omega, HQ⟩
            case measure => simp [intOf]; omega
          · obtain rfl : q = m := by omega
            have j1 : ¬ (q : Int) < (q : Int) := by omega
            have HW2 := Lib.hid HQ.out.b
            clear HQ
            go_wp2_with fail
            go_roundw
            case rel => exact ⟨k + 1, by go_num, by omega, HW2⟩
            case measure => simp [intOf]; omega
    · obtain rfl : k = n2 := by omega
      have i1 : ¬ (k : Int) < (k : Int) := by omega
      have t2 := HW.out.x.cell 2
      go_wp2_with fail
      refine (alive16_any _).mono ?_
      rintro e u9 ⟨rfl, hb9⟩
      have HX9 := Lib.hid (HW.out.step hb9)
      clear hb9
      go_wp2_with fail
      go_ret
      exact ⟨rfl, HX9.out.b⟩
theorem chainEnds_all (W : World) (A00 A01 A02 A03 A04 : Option Addr) (n00 n01 n02 n03 n04 c00 c01 c02 c03 c04 : Nat) (q0 : Int) (S0 : Sv14) (h0 : Small14 n00 n01 n02 n03 n04 → SA14 W S0 A00 A01 A02 A03 A04 n00 n01 n02 n03 n04 c00 c01 c02 c03 c04 q0) :
    Calls Try.prog 4 #[.agg #[.slice A00 n00 c00, .slice A01 n01 c01, .slice A02 n02 c02, .slice A03 n03 c03, .slice A04 n04 c04, .int .i64 q0]] W fun e w' => e = .returned (.bool true) ∧ Below W.heap.size W w' := by
  by_cases hn : Small14 n00 n01 n02 n03 n04
  case neg => exact lends16_no1 A00 A01 A02 A03 A04 n00 n01 n02 n03 n04 c00 c01 c02 c03 c04 q0 S0 W hn
  by_cases hf : Fine14 S0
  · exact lends16_yes A00 A01 A02 A03 A04 n00 n01 n02 n03 n04 c00 c01 c02 c03 c04 q0 S0 W (h0 hn) hn hf
  · exact lends16_no2 A00 A01 A02 A03 A04 n00 n01 n02 n03 n04 c00 c01 c02 c03 c04 q0 S0 W (h0 hn) hn hf
end Go.Proofs.Ytfjpjbgdmebihaa
namespace Go.Proofs.Ytfjpjbgdmebihaa
open Go.ChangeShapes Go.WideShapes Go.ChangeAt Go.RowKit
set_option maxRecDepth 100000
section
variable {H : Type} {enc : TypeId × Value → H} {P : Program}
/-- All arguments read behind the call as they did before. -/
theorem trodAll_below (hl : laidOutB P = true) {W W' : World} (hb : Below W.heap.size W W') : ∀ {ts : List TypeId} {vs : List Value} {ds : List (DataW H)} {ps : List MemPlace},
    ts.all (fun t => P.readableRec t && decide (t < P.types.size)) = true → DataW.TrodAll enc P W 0 (fun _ => true) true ts vs ds ps → (∀ x ∈ ps, x.block < W.heap.size) →
      DataW.TrodAll enc P W' 0 (fun b => decide (b < W.heap.size)) true ts vs ds ps
  | [], _, _, _, _, h, _ => by
    obtain ⟨rfl, rfl, rfl⟩ := trodAll_nil h
    exact trodAll_mk0
  | t :: ts, _, _, _, hr, h, hlt => by
    obtain ⟨v, vs, d, ds, p, q, rfl, rfl, rfl, h1, h2⟩ := trodAll_cons h
    simp only [List.all_cons, Bool.and_eq_true, decide_eq_true_eq] at hr
    exact trodAll_cons_mk (Below.trod hl hr.1.1 hr.1.2 h1 hb (fun x hx => hlt x (by simp [hx]))) (trodAll_below hl hb (by simpa using hr.2) h2 (fun x hx => hlt x (by simp [hx])))
/-- A law's answer: true; all that was there is as it was. -/
theorem law_post {f : Func} {s : ChangeSpec} {tb : TypeId} {W W' : World} {args : Array Value} {ds gs : List (DataW H)} {before : List MemPlace}
    (hl : laidOutB P = true) (hro : f.params.toList.all (fun t => P.readableRec t && decide (t < P.types.size)) = true) (htb : P.underlying tb = some .bool) (hrt : f.resultTypes = #[tb]) (hvars : s.vars = [])
    (hW : DataW.Whole enc P f.params.toList s.vars false W args.toList ds gs before) (hspec : s.fn H ds = { results := [.lit (.bool true)], args := ds }) (hb : Below W.heap.size W W') :
    s.post enc P f false true false false W args (.bool true) W' := by
  have hW' := hW
  obtain ⟨p, q, hA, hV, rfl, hfz, hnd⟩ := hW
  rw [hvars] at hV
  obtain ⟨rfl, rfl⟩ := trodVars_none hV
  refine ⟨ds, [], p ++ [], [], p, [], hW', ?_, ?_, ?_, World.keptBut_mono (fun x hx => ⟨hx, ?_⟩) (hb.frame _), fun h => by cases h⟩
  · rw [List.append_nil, hspec, hrt]
    exact trodAll_cons_mk (shut_bool htb _) trodAll_mk0
  · rw [List.append_nil, hspec]
    exact trodAll_below hl hb hro hA (fun x hx => by simpa using hW'.lt x (by simp [hx]))
  · rw [List.append_nil, hspec, hvars]
    rfl
  · simpa using hx
end
theorem own_knob : ownKnob Try.prog.godebug = none := by kernel_rfl
theorem laid_out : laidOutB Try.prog = true := by kernel_rfl
end Go.Proofs.Ytfjpjbgdmebihaa
namespace Go.Proofs.Ytfjpjbgdmebihaa
open Go.ChangeShapes Go.WideShapes Go.ChangeAt Go.RowKit
set_option maxRecDepth 100000
/-- A slice of what is read as 'cl x', wherever it lies. -/
theorem open_rows14 {α : Type} [Inhabited α] {cl : α → List Value} {k : Nat} (hk : ∀ x, (cl x).length = k) (hk0 : 0 < k) {H : Type} {enc : TypeId × Value → H} {W : World} {t e : TypeId} (ht : Try.prog.underlying t = some (.slice e)) (he : Try.prog.cellsOf e = k)
    (hx : ∀ f cs y, cs.length = k → DataW.trod enc Try.prog W 0 (fun _ => true) true f e cs = some y → ∃ x, cs = cl x) {v : Value} {f : Nat} {y : DataW H × List MemPlace} (h : DataW.trod enc Try.prog W 0 (fun _ => true) true f t [v] = some y) :
    ∃ (A : Option Addr) (n c : Nat) (xs : List α), v = .slice A n c ∧ xs.length = n ∧ Lq cl W W.heap.size A xs ∧ n ≤ c := by
  rcases Go.Deep.open_slice ht h with ⟨hcs, hy⟩ | ⟨a, len, cap, m, n, D, Pl, hcs, hb, hl, hm, hmm, hy, hel⟩
  · simp at hcs
    subst hcs
    exact ⟨none, 0, 0, [], rfl, rfl, Lq.nil _ _ _ _, Nat.le_refl _⟩
  · simp at hcs
    subst hcs
    simp only [if_true] at hmm
    have each : ∀ i, i < len → ∃ x : α, ∀ j v, (cl x)[j]? = some v → W.cell? (a.add (i * k + j)) = some v := by
      intro i hi
      obtain ⟨cs', h1, h2⟩ := hel i (by omega)
      rw [he] at h1
      obtain ⟨_, hlen, hcell⟩ := World.cells?_some h1
      obtain ⟨x, rfl⟩ := hx _ _ _ hlen h2
      refine ⟨x, fun j v hj => ?_⟩
      have hjk : j < k := by
        have := (List.getElem?_eq_some_iff.1 hj).1
        rwa [hk] at this
      have := hcell j hjk
      rw [Go.Deep.add_add] at this
      rw [this]
      exact hj
    obtain ⟨q, hq⟩ := Go.Deep.choose_lt each
    have hll : ((List.range len).map q).length = len := by simp
    refine ⟨some a, len, cap, (List.range len).map q, rfl, hll, fun hne => ?_, hl⟩
    have hpos : 0 < len := by
      rcases Nat.eq_zero_or_pos len with h0 | h0
      · subst h0
        exact absurd rfl hne
      · exact h0
    have hfirst : ∃ v, W.cell? a = some v := by
      have hc0 : 0 < (cl (q 0)).length := by rw [hk]; exact hk0
      refine ⟨(cl (q 0))[0], ?_⟩
      have := hq 0 hpos 0 _ (List.getElem?_eq_getElem hc0)
      simpa [Addr.add] using this
    obtain ⟨v0, hv0⟩ := hfirst
    obtain ⟨b, off, spot⟩ := a
    have hspot : spot = none := by simpa using World.cell?_spot hv0
    subst hspot
    refine ⟨b, off, rfl, World.block_lt_of_cell? W _ hv0, fun j v hj => ?_⟩
    have hjl : j < len * k := by
      have := (List.getElem?_eq_some_iff.1 hj).1
      rw [fl14_len hk, hll] at this
      exact this
    have hd : j / k < len := Nat.div_lt_of_lt_mul (by rw [Nat.mul_comm]; exact hjl)
    have hm' : j % k < k := Nat.mod_lt _ hk0
    have hj2 : j / k * k + j % k = j := by rw [Nat.mul_comm]; exact Nat.div_add_mod j k
    rw [← hj2, fl14_get hk (by rw [hll]; exact hd) hm'] at hj
    have hg : gt14 ((List.range len).map q) (j / k) = q (j / k) := by simp [gt14, hd]
    rw [hg] at hj
    have := hq (j / k) hd (j % k) v hj
    rw [hj2] at this
    simpa only [Go.WideShapes.add_plain] using this
/-- A field of a struct. -/
theorem trod_fld14 {P : Program} {H : Type} {enc : TypeId × Value → H} {w : World} {base : Nat} {spare : Nat → Bool} {held : Bool} {t : TypeId} {fs : Array Field} {fuel : Nat} {cs : List Value} {x : DataW H × List MemPlace} (ht : P.underlying t = some (.struct fs)) (h : DataW.trod enc P w base spare held fuel t cs = some x) :
    ∃ n, ∀ (i : Nat) (f : Field), fs[i]? = some f → ∃ y, DataW.trod enc P w base spare held n f.type ((cs.drop f.offset).take (P.cellsOf f.type)) = some y := by
  obtain ⟨xs, n, _, rfl, hl, hlen, hf⟩ := DataW.trod_struct ht h
  refine ⟨n, fun i f hi => ?_⟩
  have hlt : i < fs.size := (Array.getElem?_eq_some_iff.1 hi).1
  have := hf i f hi
  rw [List.getElem?_eq_getElem (by omega)] at this
  exact ⟨_, this⟩
theorem cells14_bool : Try.prog.cellsOf 4 = 1 := by kernel_rfl
theorem cells14_int : Try.prog.cellsOf 3 = 1 := by kernel_rfl
theorem elem14_T {H : Type} {enc : TypeId × Value → H} {W : World} (f : Nat) (cs : List Value) (y : DataW H × List MemPlace) (hl : cs.length = 6) (h : DataW.trod enc Try.prog W 0 (fun _ => true) true f 55 cs = some y) : ∃ x, cs = clT x := by
  obtain ⟨n, hf⟩ := trod_fld14 Try.underlying55 h
  match cs, hl with
  | [z0, z1, z2, z3, z4, z5], _ =>
    obtain ⟨y0, g0⟩ := hf 0 _ rfl
    have g0 : DataW.trod enc Try.prog W 0 (fun _ => true) true n 4 (([z0, z1, z2, z3, z4, z5].drop 0).take (Try.prog.cellsOf 4)) = some y0 := g0
    rw [cells14_bool] at g0
    obtain ⟨x0, e0, _⟩ := DataW.trod_bool Try.underlying4 g0
    obtain ⟨y1, g1⟩ := hf 1 _ rfl
    have g1 : DataW.trod enc Try.prog W 0 (fun _ => true) true n 3 (([z0, z1, z2, z3, z4, z5].drop 1).take (Try.prog.cellsOf 3)) = some y1 := g1
    rw [cells14_int] at g1
    obtain ⟨x1, e1, _, _⟩ := DataW.trod_int Try.underlying3 g1
    obtain ⟨y2, g2⟩ := hf 2 _ rfl
    have g2 : DataW.trod enc Try.prog W 0 (fun _ => true) true n 3 (([z0, z1, z2, z3, z4, z5].drop 2).take (Try.prog.cellsOf 3)) = some y2 := g2
    rw [cells14_int] at g2
    obtain ⟨x2, e2, _, _⟩ := DataW.trod_int Try.underlying3 g2
    obtain ⟨y3, g3⟩ := hf 3 _ rfl
    have g3 : DataW.trod enc Try.prog W 0 (fun _ => true) true n 3 (([z0, z1, z2, z3, z4, z5].drop 3).take (Try.prog.cellsOf 3)) = some y3 := g3
    rw [cells14_int] at g3
    obtain ⟨x3, e3, _, _⟩ := DataW.trod_int Try.underlying3 g3
    obtain ⟨y4, g4⟩ := hf 4 _ rfl
    have g4 : DataW.trod enc Try.prog W 0 (fun _ => true) true n 3 (([z0, z1, z2, z3, z4, z5].drop 4).take (Try.prog.cellsOf 3)) = some y4 := g4
    rw [cells14_int] at g4
    obtain ⟨x4, e4, _, _⟩ := DataW.trod_int Try.underlying3 g4
    obtain ⟨y5, g5⟩ := hf 5 _ rfl
    have g5 : DataW.trod enc Try.prog W 0 (fun _ => true) true n 4 (([z0, z1, z2, z3, z4, z5].drop 5).take (Try.prog.cellsOf 4)) = some y5 := g5
    rw [cells14_bool] at g5
    obtain ⟨x5, e5, _⟩ := DataW.trod_bool Try.underlying4 g5
    simp at e0 e1 e2 e3 e4 e5
    subst e0 e1 e2 e3 e4 e5
    exact ⟨⟨x0, x1, x2, x3, x4, x5⟩, rfl⟩
theorem elem14_H {H : Type} {enc : TypeId × Value → H} {W : World} (f : Nat) (cs : List Value) (y : DataW H × List MemPlace) (hl : cs.length = 5) (h : DataW.trod enc Try.prog W 0 (fun _ => true) true f 38 cs = some y) : ∃ x, cs = clH x := by
  obtain ⟨n, hf⟩ := trod_fld14 Try.underlying38 h
  match cs, hl with
  | [z0, z1, z2, z3, z4], _ =>
    obtain ⟨y0, g0⟩ := hf 0 _ rfl
    have g0 : DataW.trod enc Try.prog W 0 (fun _ => true) true n 3 (([z0, z1, z2, z3, z4].drop 0).take (Try.prog.cellsOf 3)) = some y0 := g0
    rw [cells14_int] at g0
    obtain ⟨x0, e0, _, _⟩ := DataW.trod_int Try.underlying3 g0
    obtain ⟨y1, g1⟩ := hf 1 _ rfl
    have g1 : DataW.trod enc Try.prog W 0 (fun _ => true) true n 3 (([z0, z1, z2, z3, z4].drop 1).take (Try.prog.cellsOf 3)) = some y1 := g1
    rw [cells14_int] at g1
    obtain ⟨x1, e1, _, _⟩ := DataW.trod_int Try.underlying3 g1
    obtain ⟨y2, g2⟩ := hf 2 _ rfl
    have g2 : DataW.trod enc Try.prog W 0 (fun _ => true) true n 3 (([z0, z1, z2, z3, z4].drop 2).take (Try.prog.cellsOf 3)) = some y2 := g2
    rw [cells14_int] at g2
    obtain ⟨x2, e2, _, _⟩ := DataW.trod_int Try.underlying3 g2
    obtain ⟨y3, g3⟩ := hf 3 _ rfl
    have g3 : DataW.trod enc Try.prog W 0 (fun _ => true) true n 3 (([z0, z1, z2, z3, z4].drop 3).take (Try.prog.cellsOf 3)) = some y3 := g3
    rw [cells14_int] at g3
    obtain ⟨x3, e3, _, _⟩ := DataW.trod_int Try.underlying3 g3
    obtain ⟨y4, g4⟩ := hf 4 _ rfl
    have g4 : DataW.trod enc Try.prog W 0 (fun _ => true) true n 3 (([z0, z1, z2, z3, z4].drop 4).take (Try.prog.cellsOf 3)) = some y4 := g4
    rw [cells14_int] at g4
    obtain ⟨x4, e4, _, _⟩ := DataW.trod_int Try.underlying3 g4
    simp at e0 e1 e2 e3 e4
    subst e0 e1 e2 e3 e4
    exact ⟨⟨x0, x1, x2, x3, x4⟩, rfl⟩
theorem elem14_L {H : Type} {enc : TypeId × Value → H} {W : World} (f : Nat) (cs : List Value) (y : DataW H × List MemPlace) (hl : cs.length = 2) (h : DataW.trod enc Try.prog W 0 (fun _ => true) true f 45 cs = some y) : ∃ x, cs = clL x := by
  obtain ⟨n, hf⟩ := trod_fld14 Try.underlying45 h
  match cs, hl with
  | [z0, z1], _ =>
    obtain ⟨y0, g0⟩ := hf 0 _ rfl
    have g0 : DataW.trod enc Try.prog W 0 (fun _ => true) true n 4 (([z0, z1].drop 0).take (Try.prog.cellsOf 4)) = some y0 := g0
    rw [cells14_bool] at g0
    obtain ⟨x0, e0, _⟩ := DataW.trod_bool Try.underlying4 g0
    obtain ⟨y1, g1⟩ := hf 1 _ rfl
    have g1 : DataW.trod enc Try.prog W 0 (fun _ => true) true n 3 (([z0, z1].drop 1).take (Try.prog.cellsOf 3)) = some y1 := g1
    rw [cells14_int] at g1
    obtain ⟨x1, e1, _, _⟩ := DataW.trod_int Try.underlying3 g1
    simp at e0 e1
    subst e0 e1
    exact ⟨⟨x0, x1⟩, rfl⟩
theorem elem14_C {H : Type} {enc : TypeId × Value → H} {W : World} (f : Nat) (cs : List Value) (y : DataW H × List MemPlace) (hl : cs.length = 1) (h : DataW.trod enc Try.prog W 0 (fun _ => true) true f 4 cs = some y) : ∃ x, cs = clC x := by
  obtain ⟨x, rfl, _⟩ := DataW.trod_bool Try.underlying4 h
  exact ⟨x, rfl⟩
theorem elem14_I {H : Type} {enc : TypeId × Value → H} {W : World} (f : Nat) (cs : List Value) (y : DataW H × List MemPlace) (hl : cs.length = 1) (h : DataW.trod enc Try.prog W 0 (fun _ => true) true f 3 cs = some y) : ∃ x, cs = clI x := by
  obtain ⟨x, rfl, _⟩ := DataW.trod_int Try.underlying3 h
  exact ⟨x, rfl⟩
/-- A state as an argument: if it is small, it is laid. -/
theorem open_state14 {H : Type} {enc : TypeId × Value → H} {W : World} {base : Nat} {v : Value} {d : DataW H} {p : List MemPlace} (hv : Value.okWide Try.prog W .any base 28 v) (h : DataW.Trod enc Try.prog W 0 (fun _ => true) true 28 v d p) :
    ∃ (A0 A1 A2 A3 A4 : Option Addr) (n0 n1 n2 n3 n4 c0 c1 c2 c3 c4 : Nat) (sq : Int) (S : Sv14), v = .agg #[.slice A0 n0 c0, .slice A1 n1 c1, .slice A2 n2 c2, .slice A3 n3 c3, .slice A4 n4 c4, .int .i64 sq] ∧ (Small14 n0 n1 n2 n3 n4 → SA14 W S A0 A1 A2 A3 A4 n0 n1 n2 n3 n4 c0 c1 c2 c3 c4 sq) := by
  obtain ⟨cs, rfl, hsz⟩ := okWide_struct Try.underlying28 hv
  rw [show Try.prog.cellsOf 28 = 6 by kernel_rfl] at hsz
  obtain ⟨l, rfl⟩ : ∃ l : List Value, cs = l.toArray := ⟨cs.toList, by simp⟩
  obtain ⟨fuel, hf⟩ := h
  simp only [Value.cells] at hf
  obtain ⟨n, hg⟩ := trod_fld14 Try.underlying28 hf
  match l, hsz with
  | [z0, z1, z2, z3, z4, z5], _ =>
    obtain ⟨y0, g0⟩ := hg 0 _ rfl
    have g0 : DataW.trod enc Try.prog W 0 (fun _ => true) true n 22 (([z0, z1, z2, z3, z4, z5].drop 0).take (Try.prog.cellsOf 22)) = some y0 := g0
    rw [show Try.prog.cellsOf 22 = 1 by kernel_rfl] at g0
    obtain ⟨A0, n0, c0, x0, e0, l0, r0, k0⟩ := open_rows14 len14C (by omega) Try.underlying22 (by kernel_rfl) elem14_C (v := z0) (by simpa using g0)
    obtain ⟨y1, g1⟩ := hg 1 _ rfl
    have g1 : DataW.trod enc Try.prog W 0 (fun _ => true) true n 23 (([z0, z1, z2, z3, z4, z5].drop 1).take (Try.prog.cellsOf 23)) = some y1 := g1
    rw [show Try.prog.cellsOf 23 = 1 by kernel_rfl] at g1
    obtain ⟨A1, n1, c1, x1, e1, l1, r1, k1⟩ := open_rows14 len14T (by omega) Try.underlying23 (by kernel_rfl) elem14_T (v := z1) (by simpa using g1)
    obtain ⟨y2, g2⟩ := hg 2 _ rfl
    have g2 : DataW.trod enc Try.prog W 0 (fun _ => true) true n 24 (([z0, z1, z2, z3, z4, z5].drop 2).take (Try.prog.cellsOf 24)) = some y2 := g2
    rw [show Try.prog.cellsOf 24 = 1 by kernel_rfl] at g2
    obtain ⟨A2, n2, c2, x2, e2, l2, r2, k2⟩ := open_rows14 len14H (by omega) Try.underlying24 (by kernel_rfl) elem14_H (v := z2) (by simpa using g2)
    obtain ⟨y3, g3⟩ := hg 3 _ rfl
    have g3 : DataW.trod enc Try.prog W 0 (fun _ => true) true n 25 (([z0, z1, z2, z3, z4, z5].drop 3).take (Try.prog.cellsOf 25)) = some y3 := g3
    rw [show Try.prog.cellsOf 25 = 1 by kernel_rfl] at g3
    obtain ⟨A3, n3, c3, x3, e3, l3, r3, k3⟩ := open_rows14 len14L (by omega) Try.underlying25 (by kernel_rfl) elem14_L (v := z3) (by simpa using g3)
    obtain ⟨y4, g4⟩ := hg 4 _ rfl
    have g4 : DataW.trod enc Try.prog W 0 (fun _ => true) true n 26 (([z0, z1, z2, z3, z4, z5].drop 4).take (Try.prog.cellsOf 26)) = some y4 := g4
    rw [show Try.prog.cellsOf 26 = 1 by kernel_rfl] at g4
    obtain ⟨A4, n4, c4, x4, e4, l4, r4, k4⟩ := open_rows14 len14I (by omega) Try.underlying26 (by kernel_rfl) elem14_I (v := z4) (by simpa using g4)
    obtain ⟨y5, g5⟩ := hg 5 _ rfl
    have g5 : DataW.trod enc Try.prog W 0 (fun _ => true) true n 3 (([z0, z1, z2, z3, z4, z5].drop 5).take (Try.prog.cellsOf 3)) = some y5 := g5
    rw [cells14_int] at g5
    obtain ⟨sq, e5, _, _⟩ := DataW.trod_int Try.underlying3 g5
    simp at e5
    subst e0 e1 e2 e3 e4 e5
    refine ⟨A0, A1, A2, A3, A4, n0, n1, n2, n3, n4, c0, c1, c2, c3, c4, sq, ⟨x0, x1, x2, x3, x4, sq⟩, rfl, fun hs => ?_⟩
    obtain ⟨s0, s1, s2, s3, s4⟩ := hs
    exact ⟨l0, l1, l2, l3, l4, r0, r1, r2, r3, r4, k0, k1, k2, k3, k4, by omega, by omega, by omega, by omega, by omega, rfl⟩
end Go.Proofs.Ytfjpjbgdmebihaa
namespace Go.Proofs.Ytfjpjbgdmebihaa
open Go.ChangeShapes Go.WideShapes Go.ChangeAt Go.RowKit
set_option maxRecDepth 100000
set_option maxRecDepth 100000 in
theorem chainEnds_lifted (os : Os) (started : os.Started) (H : Type) (enc : TypeId × Value → H) :
    ReturnsInHanded {} Try.checked os 4 .any (Rows.chainEndsSpec.pre6 enc Try.prog Try.f4 Rows.chainEndsRow.domain false) (Rows.chainEndsSpec.post enc Try.prog Try.f4 false true false false) := by
  refine returnsInHanded_of_change (C := Try.checked) own_knob started (by kernel_rfl) Try.func4
    (ChangeSpec.witness6 (enc := enc) (C := Try.checked) false ⟨#[], #[.agg #[.slice none 0 0, .slice none 0 0, .slice none 0 0, .slice none 0 0, .slice none 0 0, .int .i64 0]], []⟩ 8 (by kernel_rfl) (by kernel_rfl) (by kernel_rfl) (by kernel_rfl)) ?_
  intro W base args ds gs before hval0 hW hcnd _
  have hval : ∀ (j : Nat) t v, Try.f4.params[j]? = some t → args[j]? = some v → Value.okWide Try.prog W .any base t v := hval0
  have hW' : DataW.Whole enc Try.prog Try.f4.params.toList Rows.chainEndsSpec.vars false W args.toList ds gs before := hW
  obtain ⟨p, q, hA0, hV, hpq, hfz, hnd⟩ := hW
  have hA : DataW.TrodAll enc Try.prog W 0 (fun _ => true) true Try.f4.params.toList args.toList ds p := hA0
  rw [Try.params4] at hA hval
  obtain ⟨v0, vs0, d0, ds0, p0, q0, hargs, rfl, rfl, t0, r0⟩ := trodAll_cons hA
  obtain ⟨rfl, rfl, rfl⟩ := trodAll_nil r0
  obtain rfl : args = #[v0] := by cases args; simp_all
  obtain ⟨A00, A01, A02, A03, A04, n00, n01, n02, n03, n04, c00, c01, c02, c03, c04, q0, S0, rfl, h0⟩ := open_state14 (hval 0 28 v0 rfl rfl) t0
  have hwalk : Calls Try.prog 4 #[.agg #[.slice A00 n00 c00, .slice A01 n01 c01, .slice A02 n02 c02, .slice A03 n03 c03, .slice A04 n04 c04, .int .i64 q0]] W fun e w' => e = .returned (.bool true) ∧ Below W.heap.size W w' := chainEnds_all W A00 A01 A02 A03 A04 n00 n01 n02 n03 n04 c00 c01 c02 c03 c04 q0 S0 h0
  refine hwalk.mono fun e W' ⟨he, hg⟩ => ?_
  subst he
  exact ⟨_, rfl, law_post laid_out (by kernel_rfl) Try.underlying4 (by kernel_rfl) rfl hW' rfl hg⟩
theorem chainEnds_over : Rows.chainEndsRow.holds Try.pinned (OpenSpec.ofChange Rows.chainEndsSpec) :=
  OpenClaim.holds_of_wide 4 Try.f4 rfl rfl rfl rfl rfl rfl rfl ⟨rfl, rfl, rfl, rfl, rfl⟩ rfl rfl rfl rfl rfl (by kernel_rfl) Try.func4 (by kernel_rfl)
    (of_decide_eq_true (by kernel_rfl)) (by unfold Func.isWrapper; first | (rw [if_pos (by decide +kernel)]; kernel_rfl) | (rw [if_neg (by decide +kernel)]; exact ⟨rfl, rfl⟩))
    (fun os started H enc _ => chainEnds_lifted os started H enc)
theorem chainEnds_holds : Rows.ChainEndsSaid :=
  chainEnds_over
end Go.Proofs.Ytfjpjbgdmebihaa
