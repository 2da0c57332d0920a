/-
  SaidLiveTells, part 3 of 16: what the theorem liveTells_holds reaches.
-/
import Derived.Test.YtllcmjdfgbiijaaLT2
import Derived.Deep.DeepCutAuto
namespace Go.Proofs.Ytllcmjdfgbiijaa
open Go.RowKit
set_option maxRecDepth 100000
theorem fields14H : Try.prog.underlying 43 = some (.struct (Try.prog.fieldsOf 43)) := by kernel_rfl
theorem held14H : Try.prog.stoodInHeld 43 = false := by kernel_rfl
set_option maxHeartbeats 4000000 in
theorem neq14H (xz : Int) (xf : Int) (xc : Int) (xq : Int) (xu : Int) (yz : Int) (yf : Int) (yc : Int) (yq : Int) (yu : Int) (w : World) : (binOp .neq 43 (.agg #[.int .i64 xz, .int .i64 xf, .int .i64 xc, .int .i64 xq, .int .i64 xu]) (.agg #[.int .i64 yz, .int .i64 yf, .int .i64 yc, .int .i64 yq, .int .i64 yu])).run Try.prog w = .ok (.bool (!decide ((⟨xz, xf, xc, xq, xu⟩ : Th14) = ⟨yz, yf, yc, yq, yu⟩))) w := by
  have u3 := Try.underlying3
  have u4 := Try.underlying4
  have a3 := Try.isAgg3
  have a4 := Try.isAgg4
  have z3 := Try.sizeOf3
  have z4 := Try.sizeOf4
  rw [run_neq_struct, show (10000 : Nat) = 9999 + 1 from rfl, run_equalIn_agg w 9999 43 _ _ fields14H held14H]
  simp only [Program.fieldsOf, Try.underlying43]
  go_simp
  by_cases e0 : xz = yz
  case neg => simp [e0]
  by_cases e1 : xf = yf
  case neg => simp [e0, e1]
  by_cases e2 : xc = yc
  case neg => simp [e0, e1, e2]
  by_cases e3 : xq = yq
  case neg => simp [e0, e1, e2, e3]
  by_cases e4 : xu = yu
  case neg => simp [e0, e1, e2, e3, e4]
  simp [e0, e1, e2, e3, e4]
theorem def14H : usH default = false := rfl
set_option maxHeartbeats 4000000 in
theorem at14H_no (A : Option Addr) (xs : List Th14) (n c : Nat) (i : Int) (w : World) (hl : xs.length = n) (hr : Lq clH w w.heap.size A xs) (hn : n ≤ 1000000) (hu : us14 usH xs i = false) :
    Calls Try.prog 51 #[.slice A n c, .int .i64 i, .func (.func 52) #[] #[]] w fun e w' => e = .returned (.tuple #[.agg #[.int .i64 0, .int .i64 0, .int .i64 0, .int .i64 0, .int .i64 0], .bool false]) ∧ Below w.heap.size w w' := by
  have HB0 := Lib.hid (b1' w (.cells #[.int .i64 0, .int .i64 0, .int .i64 0, .int .i64 0, .int .i64 0] 43))
  have HK := Lib.hid (Blk.new w 43 #[.int .i64 0, .int .i64 0, .int .i64 0, .int .i64 0, .int .i64 0])
  have fin : ∀ W, Below w.heap.size w W → Blk W w.heap.size 43 #[.int .i64 0, .int .i64 0, .int .i64 0, .int .i64 0, .int .i64 0] → ∃ W2, W2 = (((((W.setCell ⟨w.heap.size, 0, none⟩ (.int .i64 0)).setCell ⟨w.heap.size, 1, none⟩ (.int .i64 0)).setCell ⟨w.heap.size, 2, none⟩ (.int .i64 0)).setCell ⟨w.heap.size, 3, none⟩ (.int .i64 0)).setCell ⟨w.heap.size, 4, none⟩ (.int .i64 0)) ∧ Blk W2 w.heap.size 43 #[.int .i64 0, .int .i64 0, .int .i64 0, .int .i64 0, .int .i64 0] ∧ Below w.heap.size w W2 := fun W hB hK => ⟨_, rfl,
    by
      have h := ((((hK.set_ 0 (.int .i64 0)).set_ 1 (.int .i64 0)).set_ 2 (.int .i64 0)).set_ 3 (.int .i64 0)).set_ 4 (.int .i64 0)
      simpa using h,
    ((((hB.setCell (p := ⟨w.heap.size, 0, none⟩) (Nat.le_refl _) (.int .i64 0)).setCell (p := ⟨w.heap.size, 1, none⟩) (Nat.le_refl _) (.int .i64 0)).setCell (p := ⟨w.heap.size, 2, none⟩) (Nat.le_refl _) (.int .i64 0)).setCell (p := ⟨w.heap.size, 3, none⟩) (Nat.le_refl _) (.int .i64 0)).setCell (p := ⟨w.heap.size, 4, none⟩) (Nat.le_refl _) (.int .i64 0)⟩
  have HF := Lib.hid fin
  by_cases h : 0 ≤ i ∧ i < (n : Int)
  · obtain ⟨k, rfl⟩ : ∃ k : Nat, i = (k : Int) := ⟨i.toNat, by omega⟩
    have hk : k < n := by omega
    obtain ⟨b, o, hA, hab, hq⟩ := Lq.at_ len14H (by omega) hr (show k < xs.length by omega)
    subst hA
    obtain ⟨x, hx⟩ : ∃ x, gt14 xs k = x := ⟨_, rfl⟩
    rw [us14_nat, hx] at hu
    rw [hx] at hq
    obtain ⟨xz, xf, xc, xq, xu⟩ := x
    have hq' : ∀ i v, (clH ⟨xz, xf, xc, xq, xu⟩)[i]? = some v → (w.alloc (.cells #[.int .i64 0, .int .i64 0, .int .i64 0, .int .i64 0, .int .i64 0] 43)).cell? ⟨b, o + k * 5 + i, none⟩ = some v := fun i v hv => (HB0.out.cell hab).trans (hq i v hv)
    have q0 : (w.alloc (.cells #[.int .i64 0, .int .i64 0, .int .i64 0, .int .i64 0, .int .i64 0] 43)).cell? ⟨b, o + k * 5, none⟩ = some (.int .i64 xz) := hq' 0 _ rfl
    have q1 : (w.alloc (.cells #[.int .i64 0, .int .i64 0, .int .i64 0, .int .i64 0, .int .i64 0] 43)).cell? ⟨b, o + k * 5 + 1, none⟩ = some (.int .i64 xf) := hq' 1 _ rfl
    have q2 : (w.alloc (.cells #[.int .i64 0, .int .i64 0, .int .i64 0, .int .i64 0, .int .i64 0] 43)).cell? ⟨b, o + k * 5 + 2, none⟩ = some (.int .i64 xc) := hq' 2 _ rfl
    have q3 : (w.alloc (.cells #[.int .i64 0, .int .i64 0, .int .i64 0, .int .i64 0, .int .i64 0] 43)).cell? ⟨b, o + k * 5 + 3, none⟩ = some (.int .i64 xq) := hq' 3 _ rfl
    have q4 : (w.alloc (.cells #[.int .i64 0, .int .i64 0, .int .i64 0, .int .i64 0, .int .i64 0] 43)).cell? ⟨b, o + k * 5 + 4, none⟩ = some (.int .i64 xu) := hq' 4 _ rfl
    have i0 : (0 : Int) ≤ (k : Int) := by omega
    have i1 : (k : Int) < (n : Int) := by omega
    have HW := Lib.hid (fun W => within14 (k : Int) (n : Int) true (by simp; omega) W)
    have HU := Lib.hid (fun W => used14H xz xf xc xq xu false hu W)
    clear hq hq' hx hu fin hr hl h
    go_enter Try.func51, Try.ntmps51
    go_wp2_with fail
    refine (HW.out _).mono ?_
    rintro e w0 ⟨rfl, rfl⟩
    clear HW
    go_wp2_with fail
    refine (HU.out _).mono ?_
    rintro e w1 ⟨rfl, hb1⟩
    have HB1 := Lib.hid (HB0.out.trans (hb1.mono HB0.out.size))
    have HK1 := Lib.hid (HK.out.below hb1 HK.out.lt)
    clear HU hb1
    obtain ⟨w2, hw2⟩ : ∃ W, w1.alloc (.cells #[.int .i64 0, .int .i64 0, .int .i64 0, .int .i64 0, .int .i64 0] 43) = W := ⟨_, rfl⟩
    have hb2 := HB1.out.alloc HB1.out.size (.cells #[.int .i64 0, .int .i64 0, .int .i64 0, .int .i64 0, .int .i64 0] 43)
    have hk2 := HK1.out.alloc (.cells #[.int .i64 0, .int .i64 0, .int .i64 0, .int .i64 0, .int .i64 0] 43)
    have hn2 := Blk.new w1 43 #[.int .i64 0, .int .i64 0, .int .i64 0, .int .i64 0, .int .i64 0]
    rw [hw2] at hb2 hk2 hn2
    obtain ⟨w3, hw3, hk3, hb3⟩ := HF.out w2 hb2 hk2
    have n0 := hn2.cell 0
    have n1 := hn2.cell 1
    have n2 := hn2.cell 2
    have n3 := hn2.cell 3
    have n4 := hn2.cell 4
    have k0 := hk2.cell 0
    have l0 := hk2.frozen 0
    have k1 := hk2.cell 1
    have l1 := hk2.frozen 1
    have k2 := hk2.cell 2
    have l2 := hk2.frozen 2
    have k3 := hk2.cell 3
    have l3 := hk2.frozen 3
    have k4 := hk2.cell 4
    have l4 := hk2.frozen 4
    have s0 := hk3.cell 0
    have g0 := hk3.frozen 0
    have s1 := hk3.cell 1
    have g1 := hk3.frozen 1
    have s2 := hk3.cell 2
    have g2 := hk3.frozen 2
    have s3 := hk3.cell 3
    have g3 := hk3.frozen 3
    have s4 := hk3.cell 4
    have g4 := hk3.frozen 4
    have HB3 := Lib.hid hb3
    clear hn2 hk2 hb2 hk3 hb3 HF
    go_wp2_with fail
    exact bodyPost_ret (v := .tuple #[.agg #[.int .i64 0, .int .i64 0, .int .i64 0, .int .i64 0, .int .i64 0], .bool false]) (by rw [← hw3]; simp [results, Try.results51, go_sem, s0, s1, s2, s3, s4, g0, g1, g2, g3, g4]) rfl ⟨rfl, by rw [← hw3]; exact HB3.out⟩
  · have HW := Lib.hid (fun W => within14 i (n : Int) false (by simpa using h) W)
    clear hu hr hl h fin
    obtain ⟨w1, hw1⟩ : ∃ W, w.alloc (.cells #[.int .i64 0, .int .i64 0, .int .i64 0, .int .i64 0, .int .i64 0] 43) = W := ⟨_, rfl⟩
    rw [hw1] at HB0 HK
    obtain ⟨w2, hw2⟩ : ∃ W, w1.alloc (.cells #[.int .i64 0, .int .i64 0, .int .i64 0, .int .i64 0, .int .i64 0] 43) = W := ⟨_, rfl⟩
    have hb2 := HB0.out.alloc HB0.out.size (.cells #[.int .i64 0, .int .i64 0, .int .i64 0, .int .i64 0, .int .i64 0] 43)
    have hk2 := HK.out.alloc (.cells #[.int .i64 0, .int .i64 0, .int .i64 0, .int .i64 0, .int .i64 0] 43)
    have hn2 := Blk.new w1 43 #[.int .i64 0, .int .i64 0, .int .i64 0, .int .i64 0, .int .i64 0]
    rw [hw2] at hb2 hk2 hn2
    obtain ⟨w3, hw3, hk3, hb3⟩ := HF.out w2 hb2 hk2
    have n0 := hn2.cell 0
    have n1 := hn2.cell 1
    have n2 := hn2.cell 2
    have n3 := hn2.cell 3
    have n4 := hn2.cell 4
    have k0 := hk2.cell 0
    have l0 := hk2.frozen 0
    have k1 := hk2.cell 1
    have l1 := hk2.frozen 1
    have k2 := hk2.cell 2
    have l2 := hk2.frozen 2
    have k3 := hk2.cell 3
    have l3 := hk2.frozen 3
    have k4 := hk2.cell 4
    have l4 := hk2.frozen 4
    have s0 := hk3.cell 0
    have g0 := hk3.frozen 0
    have s1 := hk3.cell 1
    have g1 := hk3.frozen 1
    have s2 := hk3.cell 2
    have g2 := hk3.frozen 2
    have s3 := hk3.cell 3
    have g3 := hk3.frozen 3
    have s4 := hk3.cell 4
    have g4 := hk3.frozen 4
    have HB3 := Lib.hid hb3
    clear hn2 hk2 hb2 hk3 hb3 HF
    go_enter Try.func51, Try.ntmps51
    go_wp2_with fail
    refine (HW.out _).mono ?_
    rintro e w0 ⟨rfl, rfl⟩
    clear HW
    go_wp2_with fail
    exact bodyPost_ret (v := .tuple #[.agg #[.int .i64 0, .int .i64 0, .int .i64 0, .int .i64 0, .int .i64 0], .bool false]) (by rw [← hw3]; simp [results, Try.results51, go_sem, s0, s1, s2, s3, s4, g0, g1, g2, g3, g4]) rfl ⟨rfl, by rw [← hw3]; exact HB3.out⟩
set_option maxHeartbeats 4000000 in
theorem at14H_yes (A : Option Addr) (xs : List Th14) (n c k : Nat) (xz : Int) (xf : Int) (xc : Int) (xq : Int) (xu : Int) (w : World) (hl : xs.length = n) (hr : Lq clH w w.heap.size A xs) (hn : n ≤ 1000000) (hk : k < n) (hx : gt14 xs k = ⟨xz, xf, xc, xq, xu⟩) (hu : usH ⟨xz, xf, xc, xq, xu⟩ = true) :
    Calls Try.prog 51 #[.slice A n c, .int .i64 (k : Int), .func (.func 52) #[] #[]] w fun e w' => e = .returned (.tuple #[.agg #[.int .i64 xz, .int .i64 xf, .int .i64 xc, .int .i64 xq, .int .i64 xu], .bool true]) ∧ Below w.heap.size w w' := by
  have HB0 := Lib.hid (b1' w (.cells #[.int .i64 0, .int .i64 0, .int .i64 0, .int .i64 0, .int .i64 0] 43))
  have HK := Lib.hid (Blk.new w 43 #[.int .i64 0, .int .i64 0, .int .i64 0, .int .i64 0, .int .i64 0])
  obtain ⟨b, o, hA, hab, hq⟩ := Lq.at_ len14H (by omega) hr (show k < xs.length by omega)
  subst hA
  rw [hx] at hq
  have hq' : ∀ i v, (clH ⟨xz, xf, xc, xq, xu⟩)[i]? = some v → (w.alloc (.cells #[.int .i64 0, .int .i64 0, .int .i64 0, .int .i64 0, .int .i64 0] 43)).cell? ⟨b, o + k * 5 + i, none⟩ = some v := fun i v hv => (HB0.out.cell hab).trans (hq i v hv)
  have HAB : Hid (b < (w.alloc (.cells #[.int .i64 0, .int .i64 0, .int .i64 0, .int .i64 0, .int .i64 0] 43)).heap.size) := Lib.hid (by simp; omega)
  have HQ := Lib.hid hq'
  have q0 : (w.alloc (.cells #[.int .i64 0, .int .i64 0, .int .i64 0, .int .i64 0, .int .i64 0] 43)).cell? ⟨b, o + k * 5, none⟩ = some (.int .i64 xz) := hq' 0 _ rfl
  have q1 : (w.alloc (.cells #[.int .i64 0, .int .i64 0, .int .i64 0, .int .i64 0, .int .i64 0] 43)).cell? ⟨b, o + k * 5 + 1, none⟩ = some (.int .i64 xf) := hq' 1 _ rfl
  have q2 : (w.alloc (.cells #[.int .i64 0, .int .i64 0, .int .i64 0, .int .i64 0, .int .i64 0] 43)).cell? ⟨b, o + k * 5 + 2, none⟩ = some (.int .i64 xc) := hq' 2 _ rfl
  have q3 : (w.alloc (.cells #[.int .i64 0, .int .i64 0, .int .i64 0, .int .i64 0, .int .i64 0] 43)).cell? ⟨b, o + k * 5 + 3, none⟩ = some (.int .i64 xq) := hq' 3 _ rfl
  have q4 : (w.alloc (.cells #[.int .i64 0, .int .i64 0, .int .i64 0, .int .i64 0, .int .i64 0] 43)).cell? ⟨b, o + k * 5 + 4, none⟩ = some (.int .i64 xu) := hq' 4 _ rfl
  have i0 : (0 : Int) ≤ (k : Int) := by omega
  have i1 : (k : Int) < (n : Int) := by omega
  have HW := Lib.hid (fun W => within14 (k : Int) (n : Int) true (by simp; omega) W)
  have HU := Lib.hid (fun W => used14H xz xf xc xq xu true hu W)
  clear hq hq' hx hu hr hl
  go_enter Try.func51, Try.ntmps51
  go_wp2_with fail
  refine (HW.out _).mono ?_
  rintro e w0 ⟨rfl, rfl⟩
  clear HW
  go_wp2_with fail
  refine (HU.out _).mono ?_
  rintro e w1 ⟨rfl, hb1⟩
  have hq1 : ∀ i v, (clH ⟨xz, xf, xc, xq, xu⟩)[i]? = some v → w1.cell? ⟨b, o + k * 5 + i, none⟩ = some v := fun i v hv => (hb1.cell HAB.out).trans (HQ.out i v hv)
  have p0 : w1.cell? ⟨b, o + k * 5, none⟩ = some (.int .i64 xz) := hq1 0 _ rfl
  have p1 : w1.cell? ⟨b, o + k * 5 + 1, none⟩ = some (.int .i64 xf) := hq1 1 _ rfl
  have p2 : w1.cell? ⟨b, o + k * 5 + 2, none⟩ = some (.int .i64 xc) := hq1 2 _ rfl
  have p3 : w1.cell? ⟨b, o + k * 5 + 3, none⟩ = some (.int .i64 xq) := hq1 3 _ rfl
  have p4 : w1.cell? ⟨b, o + k * 5 + 4, none⟩ = some (.int .i64 xu) := hq1 4 _ rfl
  have hK1 := HK.out.below hb1 HK.out.lt
  have k0 := hK1.cell 0
  have l0 := hK1.frozen 0
  have k1 := hK1.cell 1
  have l1 := hK1.frozen 1
  have k2 := hK1.cell 2
  have l2 := hK1.frozen 2
  have k3 := hK1.cell 3
  have l3 := hK1.frozen 3
  have k4 := hK1.cell 4
  have l4 := hK1.frozen 4
  have hK2 : Blk (((((w1.setCell ⟨w.heap.size, 0, none⟩ (.int .i64 xz)).setCell ⟨w.heap.size, 1, none⟩ (.int .i64 xf)).setCell ⟨w.heap.size, 2, none⟩ (.int .i64 xc)).setCell ⟨w.heap.size, 3, none⟩ (.int .i64 xq)).setCell ⟨w.heap.size, 4, none⟩ (.int .i64 xu)) w.heap.size 43 #[.int .i64 xz, .int .i64 xf, .int .i64 xc, .int .i64 xq, .int .i64 xu] := by
    have h := ((((hK1.set_ 0 (.int .i64 xz)).set_ 1 (.int .i64 xf)).set_ 2 (.int .i64 xc)).set_ 3 (.int .i64 xq)).set_ 4 (.int .i64 xu)
    simpa using h
  have HB2 : Hid (Below w.heap.size w (((((w1.setCell ⟨w.heap.size, 0, none⟩ (.int .i64 xz)).setCell ⟨w.heap.size, 1, none⟩ (.int .i64 xf)).setCell ⟨w.heap.size, 2, none⟩ (.int .i64 xc)).setCell ⟨w.heap.size, 3, none⟩ (.int .i64 xq)).setCell ⟨w.heap.size, 4, none⟩ (.int .i64 xu))) := Lib.hid (by
    have hB := HB0.out.trans (hb1.mono HB0.out.size)
    exact ((((hB.setCell (p := ⟨w.heap.size, 0, none⟩) (Nat.le_refl _) (.int .i64 xz)).setCell (p := ⟨w.heap.size, 1, none⟩) (Nat.le_refl _) (.int .i64 xf)).setCell (p := ⟨w.heap.size, 2, none⟩) (Nat.le_refl _) (.int .i64 xc)).setCell (p := ⟨w.heap.size, 3, none⟩) (Nat.le_refl _) (.int .i64 xq)).setCell (p := ⟨w.heap.size, 4, none⟩) (Nat.le_refl _) (.int .i64 xu))
  have s0 := hK2.cell 0
  have g0 := hK2.frozen 0
  have s1 := hK2.cell 1
  have g1 := hK2.frozen 1
  have s2 := hK2.cell 2
  have g2 := hK2.frozen 2
  have s3 := hK2.cell 3
  have g3 := hK2.frozen 3
  have s4 := hK2.cell 4
  have g4 := hK2.frozen 4
  clear HU hb1 hq1 hK1 hK2
  go_wp2_with fail
  exact bodyPost_ret (v := .tuple #[.agg #[.int .i64 xz, .int .i64 xf, .int .i64 xc, .int .i64 xq, .int .i64 xu], .bool true]) (by simp [results, Try.results51, go_sem, s0, s1, s2, s3, s4, g0, g1, g2, g3, g4]) rfl ⟨rfl, HB2.out⟩
end Go.Proofs.Ytllcmjdfgbiijaa
namespace Go.Proofs.Ytllcmjdfgbiijaa
open Go.RowKit
set_option maxRecDepth 100000
theorem len14L (x : Lk14) : (clL x).length = 2 := rfl
set_option maxHeartbeats 1000000 in
theorem used14L (xu : Bool) (xh : Int) (b : Bool) (hb : usL ⟨xu, xh⟩ = b) (w : World) :
    Calls Try.prog 75 #[.agg #[.bool xu, .int .i64 xh]] w fun e w' => e = .returned (.bool b) ∧ Below w.heap.size w w' := by
  have hk := Blk.new w 50 #[.bool xu, .int .i64 xh]
  have c0 := hk.cell 0
  have hb1 := b1' w (.cells #[.bool xu, .int .i64 xh] 50)
  clear hk
  subst hb
  go_enter Try.func75, Try.ntmps75
  go_wp2_with fail
  go_ret
  exact ⟨rfl, hb1⟩
end Go.Proofs.Ytllcmjdfgbiijaa
namespace Go.Proofs.Ytllcmjdfgbiijaa
open Go.RowKit
set_option maxRecDepth 100000
theorem def14L : usL default = false := rfl
set_option maxHeartbeats 4000000 in
theorem at14L_no (A : Option Addr) (xs : List Lk14) (n c : Nat) (i : Int) (w : World) (hl : xs.length = n) (hr : Lq clL w w.heap.size A xs) (hn : n ≤ 1000000) (hu : us14 usL xs i = false) :
    Calls Try.prog 74 #[.slice A n c, .int .i64 i, .func (.func 75) #[] #[]] w fun e w' => e = .returned (.tuple #[.agg #[.bool false, .int .i64 0], .bool false]) ∧ Below w.heap.size w w' := by
  have HB0 := Lib.hid (b1' w (.cells #[.bool false, .int .i64 0] 50))
  have HK := Lib.hid (Blk.new w 50 #[.bool false, .int .i64 0])
  have fin : ∀ W, Below w.heap.size w W → Blk W w.heap.size 50 #[.bool false, .int .i64 0] → ∃ W2, W2 = ((W.setCell ⟨w.heap.size, 0, none⟩ (.bool false)).setCell ⟨w.heap.size, 1, none⟩ (.int .i64 0)) ∧ Blk W2 w.heap.size 50 #[.bool false, .int .i64 0] ∧ Below w.heap.size w W2 := fun W hB hK => ⟨_, rfl,
    by
      have h := (hK.set_ 0 (.bool false)).set_ 1 (.int .i64 0)
      simpa using h,
    (hB.setCell (p := ⟨w.heap.size, 0, none⟩) (Nat.le_refl _) (.bool false)).setCell (p := ⟨w.heap.size, 1, none⟩) (Nat.le_refl _) (.int .i64 0)⟩
  have HF := Lib.hid fin
  by_cases h : 0 ≤ i ∧ i < (n : Int)
  · obtain ⟨k, rfl⟩ : ∃ k : Nat, i = (k : Int) := ⟨i.toNat, by omega⟩
    have hk : k < n := by omega
    obtain ⟨b, o, hA, hab, hq⟩ := Lq.at_ len14L (by omega) hr (show k < xs.length by omega)
    subst hA
    obtain ⟨x, hx⟩ : ∃ x, gt14 xs k = x := ⟨_, rfl⟩
    rw [us14_nat, hx] at hu
    rw [hx] at hq
    obtain ⟨xu, xh⟩ := x
    have hq' : ∀ i v, (clL ⟨xu, xh⟩)[i]? = some v → (w.alloc (.cells #[.bool false, .int .i64 0] 50)).cell? ⟨b, o + k * 2 + i, none⟩ = some v := fun i v hv => (HB0.out.cell hab).trans (hq i v hv)
    have q0 : (w.alloc (.cells #[.bool false, .int .i64 0] 50)).cell? ⟨b, o + k * 2, none⟩ = some (.bool xu) := hq' 0 _ rfl
    have q1 : (w.alloc (.cells #[.bool false, .int .i64 0] 50)).cell? ⟨b, o + k * 2 + 1, none⟩ = some (.int .i64 xh) := hq' 1 _ rfl
    have i0 : (0 : Int) ≤ (k : Int) := by omega
    have i1 : (k : Int) < (n : Int) := by omega
    have HW := Lib.hid (fun W => within14 (k : Int) (n : Int) true (by simp; omega) W)
    have HU := Lib.hid (fun W => used14L xu xh false hu W)
    clear hq hq' hx hu fin hr hl h
    go_enter Try.func74, Try.ntmps74
    go_wp2_with fail
    refine (HW.out _).mono ?_
    rintro e w0 ⟨rfl, rfl⟩
    clear HW
    go_wp2_with fail
    refine (HU.out _).mono ?_
    rintro e w1 ⟨rfl, hb1⟩
    have HB1 := Lib.hid (HB0.out.trans (hb1.mono HB0.out.size))
    have HK1 := Lib.hid (HK.out.below hb1 HK.out.lt)
    clear HU hb1
    obtain ⟨w2, hw2⟩ : ∃ W, w1.alloc (.cells #[.bool false, .int .i64 0] 50) = W := ⟨_, rfl⟩
    have hb2 := HB1.out.alloc HB1.out.size (.cells #[.bool false, .int .i64 0] 50)
    have hk2 := HK1.out.alloc (.cells #[.bool false, .int .i64 0] 50)
    have hn2 := Blk.new w1 50 #[.bool false, .int .i64 0]
    rw [hw2] at hb2 hk2 hn2
    obtain ⟨w3, hw3, hk3, hb3⟩ := HF.out w2 hb2 hk2
    have n0 := hn2.cell 0
    have n1 := hn2.cell 1
    have k0 := hk2.cell 0
    have l0 := hk2.frozen 0
    have k1 := hk2.cell 1
    have l1 := hk2.frozen 1
    have s0 := hk3.cell 0
    have g0 := hk3.frozen 0
    have s1 := hk3.cell 1
    have g1 := hk3.frozen 1
    have HB3 := Lib.hid hb3
    clear hn2 hk2 hb2 hk3 hb3 HF
    go_wp2_with fail
    exact bodyPost_ret (v := .tuple #[.agg #[.bool false, .int .i64 0], .bool false]) (by rw [← hw3]; simp [results, Try.results74, go_sem, s0, s1, g0, g1]) rfl ⟨rfl, by rw [← hw3]; exact HB3.out⟩
  · have HW := Lib.hid (fun W => within14 i (n : Int) false (by simpa using h) W)
    clear hu hr hl h fin
    obtain ⟨w1, hw1⟩ : ∃ W, w.alloc (.cells #[.bool false, .int .i64 0] 50) = W := ⟨_, rfl⟩
    rw [hw1] at HB0 HK
    obtain ⟨w2, hw2⟩ : ∃ W, w1.alloc (.cells #[.bool false, .int .i64 0] 50) = W := ⟨_, rfl⟩
    have hb2 := HB0.out.alloc HB0.out.size (.cells #[.bool false, .int .i64 0] 50)
    have hk2 := HK.out.alloc (.cells #[.bool false, .int .i64 0] 50)
    have hn2 := Blk.new w1 50 #[.bool false, .int .i64 0]
    rw [hw2] at hb2 hk2 hn2
    obtain ⟨w3, hw3, hk3, hb3⟩ := HF.out w2 hb2 hk2
    have n0 := hn2.cell 0
    have n1 := hn2.cell 1
    have k0 := hk2.cell 0
    have l0 := hk2.frozen 0
    have k1 := hk2.cell 1
    have l1 := hk2.frozen 1
    have s0 := hk3.cell 0
    have g0 := hk3.frozen 0
    have s1 := hk3.cell 1
    have g1 := hk3.frozen 1
    have HB3 := Lib.hid hb3
    clear hn2 hk2 hb2 hk3 hb3 HF
    go_enter Try.func74, Try.ntmps74
    go_wp2_with fail
    refine (HW.out _).mono ?_
    rintro e w0 ⟨rfl, rfl⟩
    clear HW
    go_wp2_with fail
    exact bodyPost_ret (v := .tuple #[.agg #[.bool false, .int .i64 0], .bool false]) (by rw [← hw3]; simp [results, Try.results74, go_sem, s0, s1, g0, g1]) rfl ⟨rfl, by rw [← hw3]; exact HB3.out⟩
set_option maxHeartbeats 4000000 in
theorem at14L_yes (A : Option Addr) (xs : List Lk14) (n c k : Nat) (xu : Bool) (xh : Int) (w : World) (hl : xs.length = n) (hr : Lq clL w w.heap.size A xs) (hn : n ≤ 1000000) (hk : k < n) (hx : gt14 xs k = ⟨xu, xh⟩) (hu : usL ⟨xu, xh⟩ = true) :
    Calls Try.prog 74 #[.slice A n c, .int .i64 (k : Int), .func (.func 75) #[] #[]] w fun e w' => e = .returned (.tuple #[.agg #[.bool xu, .int .i64 xh], .bool true]) ∧ Below w.heap.size w w' := by
  have HB0 := Lib.hid (b1' w (.cells #[.bool false, .int .i64 0] 50))
  have HK := Lib.hid (Blk.new w 50 #[.bool false, .int .i64 0])
  obtain ⟨b, o, hA, hab, hq⟩ := Lq.at_ len14L (by omega) hr (show k < xs.length by omega)
  subst hA
  rw [hx] at hq
  have hq' : ∀ i v, (clL ⟨xu, xh⟩)[i]? = some v → (w.alloc (.cells #[.bool false, .int .i64 0] 50)).cell? ⟨b, o + k * 2 + i, none⟩ = some v := fun i v hv => (HB0.out.cell hab).trans (hq i v hv)
  have HAB : Hid (b < (w.alloc (.cells #[.bool false, .int .i64 0] 50)).heap.size) := Lib.hid (by simp; omega)
  have HQ := Lib.hid hq'
  have q0 : (w.alloc (.cells #[.bool false, .int .i64 0] 50)).cell? ⟨b, o + k * 2, none⟩ = some (.bool xu) := hq' 0 _ rfl
  have q1 : (w.alloc (.cells #[.bool false, .int .i64 0] 50)).cell? ⟨b, o + k * 2 + 1, none⟩ = some (.int .i64 xh) := hq' 1 _ rfl
  have i0 : (0 : Int) ≤ (k : Int) := by omega
  have i1 : (k : Int) < (n : Int) := by omega
  have HW := Lib.hid (fun W => within14 (k : Int) (n : Int) true (by simp; omega) W)
  have HU := Lib.hid (fun W => used14L xu xh true hu W)
  clear hq hq' hx hu hr hl
  go_enter Try.func74, Try.ntmps74
  go_wp2_with fail
  refine (HW.out _).mono ?_
  rintro e w0 ⟨rfl, rfl⟩
  clear HW
  go_wp2_with fail
  refine (HU.out _).mono ?_
  rintro e w1 ⟨rfl, hb1⟩
  have hq1 : ∀ i v, (clL ⟨xu, xh⟩)[i]? = some v → w1.cell? ⟨b, o + k * 2 + i, none⟩ = some v := fun i v hv => (hb1.cell HAB.out).trans (HQ.out i v hv)
  have p0 : w1.cell? ⟨b, o + k * 2, none⟩ = some (.bool xu) := hq1 0 _ rfl
  have p1 : w1.cell? ⟨b, o + k * 2 + 1, none⟩ = some (.int .i64 xh) := hq1 1 _ rfl
  have hK1 := HK.out.below hb1 HK.out.lt
  have k0 := hK1.cell 0
  have l0 := hK1.frozen 0
  have k1 := hK1.cell 1
  have l1 := hK1.frozen 1
  have hK2 : Blk ((w1.setCell ⟨w.heap.size, 0, none⟩ (.bool xu)).setCell ⟨w.heap.size, 1, none⟩ (.int .i64 xh)) w.heap.size 50 #[.bool xu, .int .i64 xh] := by
    have h := (hK1.set_ 0 (.bool xu)).set_ 1 (.int .i64 xh)
    simpa using h
  have HB2 : Hid (Below w.heap.size w ((w1.setCell ⟨w.heap.size, 0, none⟩ (.bool xu)).setCell ⟨w.heap.size, 1, none⟩ (.int .i64 xh))) := Lib.hid (by
    have hB := HB0.out.trans (hb1.mono HB0.out.size)
    exact (hB.setCell (p := ⟨w.heap.size, 0, none⟩) (Nat.le_refl _) (.bool xu)).setCell (p := ⟨w.heap.size, 1, none⟩) (Nat.le_refl _) (.int .i64 xh))
  have s0 := hK2.cell 0
  have g0 := hK2.frozen 0
  have s1 := hK2.cell 1
  have g1 := hK2.frozen 1
  clear HU hb1 hq1 hK1 hK2
  go_wp2_with fail
  exact bodyPost_ret (v := .tuple #[.agg #[.bool xu, .int .i64 xh], .bool true]) (by simp [results, Try.results74, go_sem, s0, s1, g0, g1]) rfl ⟨rfl, HB2.out⟩
end Go.Proofs.Ytllcmjdfgbiijaa
namespace Go.Proofs.Ytllcmjdfgbiijaa
open Go.RowKit
set_option maxRecDepth 100000
theorem len14I (x : Int) : (clI x).length = 1 := rfl
end Go.Proofs.Ytllcmjdfgbiijaa
namespace Go.Proofs.Ytllcmjdfgbiijaa
open Go.RowKit
set_option maxRecDepth 100000
/-- A state. -/
structure Sv14 where
  C : List Bool
  T : List Tk14
  H : List Th14
  L : List Lk14
  Q : List Int
  q : Int
/-- Its lists in memory. -/
structure SA14 (w : World) (S : Sv14) (A0 A1 A2 A3 A4 : Option Addr) (n0 n1 n2 n3 n4 c0 c1 c2 c3 c4 : Nat) (sq : Int) : Prop where
  l0 : S.C.length = n0
  l1 : S.T.length = n1
  l2 : S.H.length = n2
  l3 : S.L.length = n3
  l4 : S.Q.length = n4
  r0 : Lq clC w w.heap.size A0 S.C
  r1 : Lq clT w w.heap.size A1 S.T
  r2 : Lq clH w w.heap.size A2 S.H
  r3 : Lq clL w w.heap.size A3 S.L
  r4 : Lq clI w w.heap.size A4 S.Q
  k0 : n0 ≤ c0
  k1 : n1 ≤ c1
  k2 : n2 ≤ c2
  k3 : n3 ≤ c3
  k4 : n4 ≤ c4
  m0 : n0 ≤ 1000
  m1 : n1 ≤ 1000
  m2 : n2 ≤ 1000
  m3 : n3 ≤ 1000
  m4 : n4 ≤ 1000
  e : S.q = sq
theorem SA14.step {w w' : World} {S : Sv14} {A0 A1 A2 A3 A4 : Option Addr} {n0 n1 n2 n3 n4 c0 c1 c2 c3 c4 : Nat} {sq : Int} (h : SA14 w S A0 A1 A2 A3 A4 n0 n1 n2 n3 n4 c0 c1 c2 c3 c4 sq) (hb : Below w.heap.size w w') : SA14 w' S A0 A1 A2 A3 A4 n0 n1 n2 n3 n4 c0 c1 c2 c3 c4 sq :=
  ⟨h.l0, h.l1, h.l2, h.l3, h.l4, h.r0.step hb, h.r1.step hb, h.r2.step hb, h.r3.step hb, h.r4.step hb, h.k0, h.k1, h.k2, h.k3, h.k4, h.m0, h.m1, h.m2, h.m3, h.m4, h.e⟩
/-- The value reads as the state. -/
def St14 (w : World) (v : Value) (S : Sv14) : Prop := ∃ (A0 A1 A2 A3 A4 : Option Addr) (n0 n1 n2 n3 n4 c0 c1 c2 c3 c4 : Nat) (sq : Int), v = .agg #[.slice A0 n0 c0, .slice A1 n1 c1, .slice A2 n2 c2, .slice A3 n3 c3, .slice A4 n4 c4, .int .i64 sq] ∧ SA14 w S A0 A1 A2 A3 A4 n0 n1 n2 n3 n4 c0 c1 c2 c3 c4 sq
theorem St14.step {w w' : World} {v : Value} {S : Sv14} (h : St14 w v S) (hb : Below w.heap.size w w') : St14 w' v S := by
  obtain ⟨A0, A1, A2, A3, A4, n0, n1, n2, n3, n4, c0, c1, c2, c3, c4, sq, h1, h2⟩ := h
  exact ⟨A0, A1, A2, A3, A4, n0, n1, n2, n3, n4, c0, c1, c2, c3, c4, sq, h1, h2.step hb⟩
theorem at14C_any (A : Option Addr) (xs : List Bool) (n c : Nat) (i : Int) (xu : Bool) (b : Bool) (w : World) (hl : xs.length = n) (hr : Lq clC w w.heap.size A xs) (hn : n ≤ 1000000) (hb : us14 usC xs i = b) (hx : at14 usC xs i = xu) :
    Calls Try.prog 58 #[.slice A n c, .int .i64 i, .func (.func 59) #[] #[]] w fun e w' => e = .returned (.tuple #[.bool xu, .bool b]) ∧ Below w.heap.size w w' := by
  cases b with
  | false =>
    rw [at14_no hb] at hx
    have hx2 : (false : Bool) = xu := hx
    cases hx2
    exact at14C_no A xs n c i w hl hr hn hb
  | true =>
    have h0 : 0 ≤ i ∧ i < (xs.length : Int) := Classical.byContradiction (fun h => by rw [us14_off def14C h] at hb; cases hb)
    obtain ⟨k, rfl⟩ : ∃ k : Nat, i = (k : Int) := ⟨i.toNat, by omega⟩
    have hu : usC (gt14 xs k) = true := by have h := hb; rwa [us14_nat] at h
    rw [at14_nat hu] at hx
    exact at14C_yes A xs n c k xu w hl hr hn (by omega) hx (by rw [← hx]; exact hu)
theorem at14H_any (A : Option Addr) (xs : List Th14) (n c : Nat) (i : Int) (xz : Int) (xf : Int) (xc : Int) (xq : Int) (xu : Int) (b : Bool) (w : World) (hl : xs.length = n) (hr : Lq clH w w.heap.size A xs) (hn : n ≤ 1000000) (hb : us14 usH xs i = b) (hx : at14 usH xs i = ⟨xz, xf, xc, xq, xu⟩) :
    Calls Try.prog 51 #[.slice A n c, .int .i64 i, .func (.func 52) #[] #[]] w fun e w' => e = .returned (.tuple #[.agg #[.int .i64 xz, .int .i64 xf, .int .i64 xc, .int .i64 xq, .int .i64 xu], .bool b]) ∧ Below w.heap.size w w' := by
  cases b with
  | false =>
    rw [at14_no hb] at hx
    have hx2 : (⟨0, 0, 0, 0, 0⟩ : Th14) = ⟨xz, xf, xc, xq, xu⟩ := hx
    cases hx2
    exact at14H_no A xs n c i w hl hr hn hb
  | true =>
    have h0 : 0 ≤ i ∧ i < (xs.length : Int) := Classical.byContradiction (fun h => by rw [us14_off def14H h] at hb; cases hb)
    obtain ⟨k, rfl⟩ : ∃ k : Nat, i = (k : Int) := ⟨i.toNat, by omega⟩
    have hu : usH (gt14 xs k) = true := by have h := hb; rwa [us14_nat] at h
    rw [at14_nat hu] at hx
    exact at14H_yes A xs n c k xz xf xc xq xu w hl hr hn (by omega) hx (by rw [← hx]; exact hu)
theorem at14L_any (A : Option Addr) (xs : List Lk14) (n c : Nat) (i : Int) (xu : Bool) (xh : Int) (b : Bool) (w : World) (hl : xs.length = n) (hr : Lq clL w w.heap.size A xs) (hn : n ≤ 1000000) (hb : us14 usL xs i = b) (hx : at14 usL xs i = ⟨xu, xh⟩) :
    Calls Try.prog 74 #[.slice A n c, .int .i64 i, .func (.func 75) #[] #[]] w fun e w' => e = .returned (.tuple #[.agg #[.bool xu, .int .i64 xh], .bool b]) ∧ Below w.heap.size w w' := by
  cases b with
  | false =>
    rw [at14_no hb] at hx
    have hx2 : (⟨false, 0⟩ : Lk14) = ⟨xu, xh⟩ := hx
    cases hx2
    exact at14L_no A xs n c i w hl hr hn hb
  | true =>
    have h0 : 0 ≤ i ∧ i < (xs.length : Int) := Classical.byContradiction (fun h => by rw [us14_off def14L h] at hb; cases hb)
    obtain ⟨k, rfl⟩ : ∃ k : Nat, i = (k : Int) := ⟨i.toNat, by omega⟩
    have hu : usL (gt14 xs k) = true := by have h := hb; rwa [us14_nat] at h
    rw [at14_nat hu] at hx
    exact at14L_yes A xs n c k xu xh w hl hr hn (by omega) hx (by rw [← hx]; exact hu)
set_option maxHeartbeats 2000000 in
theorem coin14 (v : Value) (S : Sv14) (i : Int) (b : Bool) (w : World) (h : St14 w v S) (hb : us14 usC S.C i = b) :
    Calls Try.prog 48 #[v, .int .i64 i] w fun e w' => e = .returned (.bool b) ∧ Below w.heap.size w w' := by
  obtain ⟨A0, A1, A2, A3, A4, n0, n1, n2, n3, n4, c0, c1, c2, c3, c4, sq, rfl, hs⟩ := h
  have hb1 := b1' w (.cells #[.slice A0 n0 c0, .slice A1 n1 c1, .slice A2 n2 c2, .slice A3 n3 c3, .slice A4 n4 c4, .int .i64 sq] 28)
  have hk1 := Blk.new w 28 #[.slice A0 n0 c0, .slice A1 n1 c1, .slice A2 n2 c2, .slice A3 n3 c3, .slice A4 n4 c4, .int .i64 sq]
  have hs1 := hs.step hb1
  obtain ⟨w1, hw1⟩ : ∃ W, w.alloc (.cells #[.slice A0 n0 c0, .slice A1 n1 c1, .slice A2 n2 c2, .slice A3 n3 c3, .slice A4 n4 c4, .int .i64 sq] 28) = W := ⟨_, rfl⟩
  rw [hw1] at hb1 hk1 hs1
  obtain ⟨xu, hx⟩ : ∃ y, at14 usC S.C i = y := ⟨_, rfl⟩
  have HA := Lib.hid (at14C_any A0 S.C n0 c0 i xu b w1 hs1.l0 hs1.r0 (by have := hs1.m0; omega) hb hx)
  have HB1 := Lib.hid hb1
  have q0 := hk1.cell 0
  clear hs hs1 hk1 hb1 hb hx
  go_enter Try.func48, Try.ntmps48
  go_wp2_with fail
  refine HA.out.mono ?_
  rintro e w2 ⟨rfl, hb2⟩
  have HB2 := Lib.hid (HB1.out.trans (hb2.mono HB1.out.size))
  clear HA hb2
  go_wp2_with fail
  go_ret
  exact ⟨rfl, HB2.out⟩
set_option maxHeartbeats 2000000 in
theorem thread14 (v : Value) (S : Sv14) (i : Int) (xz : Int) (xf : Int) (xc : Int) (xq : Int) (xu : Int) (b : Bool) (w : World) (h : St14 w v S) (hb : us14 usH S.H i = b) (hx : at14 usH S.H i = ⟨xz, xf, xc, xq, xu⟩) :
    Calls Try.prog 40 #[v, .int .i64 i] w fun e w' => e = .returned (.tuple #[.agg #[.int .i64 xz, .int .i64 xf, .int .i64 xc, .int .i64 xq, .int .i64 xu], .bool b]) ∧ Below w.heap.size w w' := by
  obtain ⟨A0, A1, A2, A3, A4, n0, n1, n2, n3, n4, c0, c1, c2, c3, c4, sq, rfl, hs⟩ := h
  have hb1 := b1' w (.cells #[.slice A0 n0 c0, .slice A1 n1 c1, .slice A2 n2 c2, .slice A3 n3 c3, .slice A4 n4 c4, .int .i64 sq] 28)
  have hk1 := Blk.new w 28 #[.slice A0 n0 c0, .slice A1 n1 c1, .slice A2 n2 c2, .slice A3 n3 c3, .slice A4 n4 c4, .int .i64 sq]
  have hs1 := hs.step hb1
  obtain ⟨w1, hw1⟩ : ∃ W, w.alloc (.cells #[.slice A0 n0 c0, .slice A1 n1 c1, .slice A2 n2 c2, .slice A3 n3 c3, .slice A4 n4 c4, .int .i64 sq] 28) = W := ⟨_, rfl⟩
  rw [hw1] at hb1 hk1 hs1
  have hz1 : w1.heap.size = w.heap.size + 1 := by rw [← hw1]; simp
  have hb2 := b1' w1 (.cells #[.int .i64 0, .int .i64 0, .int .i64 0, .int .i64 0, .int .i64 0] 43)
  have hk2 := Blk.new w1 43 #[.int .i64 0, .int .i64 0, .int .i64 0, .int .i64 0, .int .i64 0]
  have hk12 := hk1.alloc (.cells #[.int .i64 0, .int .i64 0, .int .i64 0, .int .i64 0, .int .i64 0] 43)
  have hs2 := hs1.step hb2
  rw [hz1] at hk2
  obtain ⟨w2, hw2⟩ : ∃ W, w1.alloc (.cells #[.int .i64 0, .int .i64 0, .int .i64 0, .int .i64 0, .int .i64 0] 43) = W := ⟨_, rfl⟩
  rw [hw2] at hb2 hk2 hk12 hs2
  have HA := Lib.hid (at14H_any A2 S.H n2 c2 i xz xf xc xq xu b w2 hs2.l2 hs2.r2 (by have := hs2.m2; omega) hb hx)
  have HB2 := Lib.hid (hb1.trans (hb2.mono hb1.size))
  have HK2 := Lib.hid hk2
  have q0 := hk12.cell 2
  clear hs hs1 hs2 hk1 hk12 hk2 hb1 hb2 hb hx
  go_enter Try.func40, Try.ntmps40
  go_wp2_with fail
  refine HA.out.mono ?_
  rintro e w3 ⟨rfl, hb3⟩
  have hk3 := HK2.out.below hb3 HK2.out.lt
  have k0 := hk3.cell 0
  have l0 := hk3.frozen 0
  have k1 := hk3.cell 1
  have l1 := hk3.frozen 1
  have k2 := hk3.cell 2
  have l2 := hk3.frozen 2
  have k3 := hk3.cell 3
  have l3 := hk3.frozen 3
  have k4 := hk3.cell 4
  have l4 := hk3.frozen 4
  have hk4 : Blk (((((w3.setCell ⟨w.heap.size + 1, 0, none⟩ (.int .i64 xz)).setCell ⟨w.heap.size + 1, 1, none⟩ (.int .i64 xf)).setCell ⟨w.heap.size + 1, 2, none⟩ (.int .i64 xc)).setCell ⟨w.heap.size + 1, 3, none⟩ (.int .i64 xq)).setCell ⟨w.heap.size + 1, 4, none⟩ (.int .i64 xu)) (w.heap.size + 1) 43 #[.int .i64 xz, .int .i64 xf, .int .i64 xc, .int .i64 xq, .int .i64 xu] := by
    have h := ((((hk3.set_ 0 (.int .i64 xz)).set_ 1 (.int .i64 xf)).set_ 2 (.int .i64 xc)).set_ 3 (.int .i64 xq)).set_ 4 (.int .i64 xu)
    simpa using h
  have HB4 : Hid (Below w.heap.size w (((((w3.setCell ⟨w.heap.size + 1, 0, none⟩ (.int .i64 xz)).setCell ⟨w.heap.size + 1, 1, none⟩ (.int .i64 xf)).setCell ⟨w.heap.size + 1, 2, none⟩ (.int .i64 xc)).setCell ⟨w.heap.size + 1, 3, none⟩ (.int .i64 xq)).setCell ⟨w.heap.size + 1, 4, none⟩ (.int .i64 xu))) := Lib.hid (by
    have hB := HB2.out.trans (hb3.mono HB2.out.size)
    exact ((((hB.setCell (p := ⟨w.heap.size + 1, 0, none⟩) (by simp) (.int .i64 xz)).setCell (p := ⟨w.heap.size + 1, 1, none⟩) (by simp) (.int .i64 xf)).setCell (p := ⟨w.heap.size + 1, 2, none⟩) (by simp) (.int .i64 xc)).setCell (p := ⟨w.heap.size + 1, 3, none⟩) (by simp) (.int .i64 xq)).setCell (p := ⟨w.heap.size + 1, 4, none⟩) (by simp) (.int .i64 xu))
  have s0 := hk4.cell 0
  have g0 := hk4.frozen 0
  have s1 := hk4.cell 1
  have g1 := hk4.frozen 1
  have s2 := hk4.cell 2
  have g2 := hk4.frozen 2
  have s3 := hk4.cell 3
  have g3 := hk4.frozen 3
  have s4 := hk4.cell 4
  have g4 := hk4.frozen 4
  clear HA hb3 hk3 hk4
  go_wp2_with fail
  exact bodyPost_ret (v := .tuple #[.agg #[.int .i64 xz, .int .i64 xf, .int .i64 xc, .int .i64 xq, .int .i64 xu], .bool b]) (by simp [results, Try.results40, go_sem, s0, s1, s2, s3, s4, g0, g1, g2, g3, g4]) rfl ⟨rfl, HB4.out⟩
set_option maxHeartbeats 2000000 in
theorem lock14 (v : Value) (S : Sv14) (i : Int) (xu : Bool) (xh : Int) (b : Bool) (w : World) (h : St14 w v S) (hb : us14 usL S.L i = b) (hx : at14 usL S.L i = ⟨xu, xh⟩) :
    Calls Try.prog 70 #[v, .int .i64 i] w fun e w' => e = .returned (.tuple #[.agg #[.bool xu, .int .i64 xh], .bool b]) ∧ Below w.heap.size w w' := by
  obtain ⟨A0, A1, A2, A3, A4, n0, n1, n2, n3, n4, c0, c1, c2, c3, c4, sq, rfl, hs⟩ := h
  have hb1 := b1' w (.cells #[.slice A0 n0 c0, .slice A1 n1 c1, .slice A2 n2 c2, .slice A3 n3 c3, .slice A4 n4 c4, .int .i64 sq] 28)
  have hk1 := Blk.new w 28 #[.slice A0 n0 c0, .slice A1 n1 c1, .slice A2 n2 c2, .slice A3 n3 c3, .slice A4 n4 c4, .int .i64 sq]
  have hs1 := hs.step hb1
  obtain ⟨w1, hw1⟩ : ∃ W, w.alloc (.cells #[.slice A0 n0 c0, .slice A1 n1 c1, .slice A2 n2 c2, .slice A3 n3 c3, .slice A4 n4 c4, .int .i64 sq] 28) = W := ⟨_, rfl⟩
  rw [hw1] at hb1 hk1 hs1
  have hz1 : w1.heap.size = w.heap.size + 1 := by rw [← hw1]; simp
  have hb2 := b1' w1 (.cells #[.bool false, .int .i64 0] 50)
  have hk2 := Blk.new w1 50 #[.bool false, .int .i64 0]
  have hk12 := hk1.alloc (.cells #[.bool false, .int .i64 0] 50)
  have hs2 := hs1.step hb2
  rw [hz1] at hk2
  obtain ⟨w2, hw2⟩ : ∃ W, w1.alloc (.cells #[.bool false, .int .i64 0] 50) = W := ⟨_, rfl⟩
  rw [hw2] at hb2 hk2 hk12 hs2
  have HA := Lib.hid (at14L_any A3 S.L n3 c3 i xu xh b w2 hs2.l3 hs2.r3 (by have := hs2.m3; omega) hb hx)
  have HB2 := Lib.hid (hb1.trans (hb2.mono hb1.size))
  have HK2 := Lib.hid hk2
  have q0 := hk12.cell 3
  clear hs hs1 hs2 hk1 hk12 hk2 hb1 hb2 hb hx
  go_enter Try.func70, Try.ntmps70
  go_wp2_with fail
  refine HA.out.mono ?_
  rintro e w3 ⟨rfl, hb3⟩
  have hk3 := HK2.out.below hb3 HK2.out.lt
  have k0 := hk3.cell 0
  have l0 := hk3.frozen 0
  have k1 := hk3.cell 1
  have l1 := hk3.frozen 1
  have hk4 : Blk ((w3.setCell ⟨w.heap.size + 1, 0, none⟩ (.bool xu)).setCell ⟨w.heap.size + 1, 1, none⟩ (.int .i64 xh)) (w.heap.size + 1) 50 #[.bool xu, .int .i64 xh] := by
    have h := (hk3.set_ 0 (.bool xu)).set_ 1 (.int .i64 xh)
    simpa using h
  have HB4 : Hid (Below w.heap.size w ((w3.setCell ⟨w.heap.size + 1, 0, none⟩ (.bool xu)).setCell ⟨w.heap.size + 1, 1, none⟩ (.int .i64 xh))) := Lib.hid (by
    have hB := HB2.out.trans (hb3.mono HB2.out.size)
    exact (hB.setCell (p := ⟨w.heap.size + 1, 0, none⟩) (by simp) (.bool xu)).setCell (p := ⟨w.heap.size + 1, 1, none⟩) (by simp) (.int .i64 xh))
  have s0 := hk4.cell 0
  have g0 := hk4.frozen 0
  have s1 := hk4.cell 1
  have g1 := hk4.frozen 1
  clear HA hb3 hk3 hk4
  go_wp2_with fail
  exact bodyPost_ret (v := .tuple #[.agg #[.bool xu, .int .i64 xh], .bool b]) (by simp [results, Try.results70, go_sem, s0, s1, g0, g1]) rfl ⟨rfl, HB4.out⟩
end Go.Proofs.Ytllcmjdfgbiijaa
namespace Go.Proofs.Ytllcmjdfgbiijaa
open Go.RowKit
set_option maxRecDepth 100000
theorem bool14_of {b : Bool} {P : Prop} (h : b = true ↔ P) (hp : ¬ P) : b = false := by
  cases b with
  | false => rfl
  | true => exact absurd (h.1 rfl) hp
end Go.Proofs.Ytllcmjdfgbiijaa
namespace Go.Proofs.Ytllcmjdfgbiijaa
open Go.RowKit
set_option maxRecDepth 100000
/-- Is a state not too long? -/
def Small14 (n0 n1 n2 n3 n4 : Nat) : Prop := n0 ≤ 40 ∧ n1 ≤ 200 ∧ n2 ≤ 80 ∧ n3 ≤ 40 ∧ n4 ≤ 100
set_option maxHeartbeats 2000000 in
theorem small14 (A0 A1 A2 A3 A4 : Option Addr) (n0 n1 n2 n3 n4 c0 c1 c2 c3 c4 : Nat) (sq : Int) (b : Bool) (w : World) (hb : b = true ↔ Small14 n0 n1 n2 n3 n4) :
    Calls Try.prog 5 #[.agg #[.slice A0 n0 c0, .slice A1 n1 c1, .slice A2 n2 c2, .slice A3 n3 c3, .slice A4 n4 c4, .int .i64 sq]] w fun e w' => e = .returned (.bool b) ∧ Below w.heap.size w w' := by
  have hk := Blk.new w 28 #[.slice A0 n0 c0, .slice A1 n1 c1, .slice A2 n2 c2, .slice A3 n3 c3, .slice A4 n4 c4, .int .i64 sq]
  have q0 := hk.cell 0
  have q1 := hk.cell 1
  have q2 := hk.cell 2
  have q3 := hk.cell 3
  have q4 := hk.cell 4
  have hb1 := b1' w (.cells #[.slice A0 n0 c0, .slice A1 n1 c1, .slice A2 n2 c2, .slice A3 n3 c3, .slice A4 n4 c4, .int .i64 sq] 28)
  clear hk
  by_cases e0 : n0 ≤ 40
  case neg =>
    obtain rfl : b = false := bool14_of hb (fun h => e0 h.1)
    have f0 : ¬ (n0 : Int) ≤ 40 := by omega
    have g0 : decide ((n0 : Int) ≤ 40) = false := decide_eq_false f0
    clear hb e0
    go_enter Try.func5, Try.ntmps5
    go_wp2_with fail
    go_ret
    exact ⟨rfl, hb1⟩
  have f0 : (n0 : Int) ≤ 40 := by omega
  by_cases e1 : n1 ≤ 200
  case neg =>
    obtain rfl : b = false := bool14_of hb (fun h => e1 h.2.1)
    have f1 : ¬ (n1 : Int) ≤ 200 := by omega
    have g1 : decide ((n1 : Int) ≤ 200) = false := decide_eq_false f1
    clear hb e1
    go_enter Try.func5, Try.ntmps5
    go_wp2_with fail
    go_ret
    exact ⟨rfl, hb1⟩
  have f1 : (n1 : Int) ≤ 200 := by omega
  by_cases e2 : n2 ≤ 80
  case neg =>
    obtain rfl : b = false := bool14_of hb (fun h => e2 h.2.2.1)
    have f2 : ¬ (n2 : Int) ≤ 80 := by omega
    have g2 : decide ((n2 : Int) ≤ 80) = false := decide_eq_false f2
    clear hb e2
    go_enter Try.func5, Try.ntmps5
    go_wp2_with fail
    go_ret
    exact ⟨rfl, hb1⟩
  have f2 : (n2 : Int) ≤ 80 := by omega
  by_cases e3 : n3 ≤ 40
  case neg =>
    obtain rfl : b = false := bool14_of hb (fun h => e3 h.2.2.2.1)
    have f3 : ¬ (n3 : Int) ≤ 40 := by omega
    have g3 : decide ((n3 : Int) ≤ 40) = false := decide_eq_false f3
    clear hb e3
    go_enter Try.func5, Try.ntmps5
    go_wp2_with fail
    go_ret
    exact ⟨rfl, hb1⟩
  have f3 : (n3 : Int) ≤ 40 := by omega
  by_cases e4 : n4 ≤ 100
  case neg =>
    obtain rfl : b = false := bool14_of hb (fun h => e4 h.2.2.2.2)
    have f4 : ¬ (n4 : Int) ≤ 100 := by omega
    have g4 : decide ((n4 : Int) ≤ 100) = false := decide_eq_false f4
    clear hb e4
    go_enter Try.func5, Try.ntmps5
    go_wp2_with fail
    go_ret
    exact ⟨rfl, hb1⟩
  have f4 : (n4 : Int) ≤ 100 := by omega
  obtain rfl : b = true := hb.2 ⟨e0, e1, e2, e3, e4⟩
  clear hb e0 e1 e2 e3 e4
  go_enter Try.func5, Try.ntmps5
  go_wp2_with fail
  go_ret
  exact ⟨rfl, hb1⟩
set_option maxHeartbeats 2000000 in
theorem rCoin14 (v : Value) (S : Sv14) (i : Int) (b : Bool) (w : World) (h : St14 w v S) (hb : us14 usC S.C i = b) :
    Calls Try.prog 16 #[v, .int .i64 i] w fun e w' => e = .returned (.bool b) ∧ Below w.heap.size w w' := by
  obtain ⟨A0, A1, A2, A3, A4, n0, n1, n2, n3, n4, c0, c1, c2, c3, c4, sq, rfl, hs⟩ := h
  have hb1 := b1' w (.cells #[.slice A0 n0 c0, .slice A1 n1 c1, .slice A2 n2 c2, .slice A3 n3 c3, .slice A4 n4 c4, .int .i64 sq] 28)
  have hk1 := Blk.new w 28 #[.slice A0 n0 c0, .slice A1 n1 c1, .slice A2 n2 c2, .slice A3 n3 c3, .slice A4 n4 c4, .int .i64 sq]
  have hs1 := hs.step hb1
  obtain ⟨w1, hw1⟩ : ∃ W, w.alloc (.cells #[.slice A0 n0 c0, .slice A1 n1 c1, .slice A2 n2 c2, .slice A3 n3 c3, .slice A4 n4 c4, .int .i64 sq] 28) = W := ⟨_, rfl⟩
  rw [hw1] at hb1 hk1 hs1
  have q0 := hk1.cell 0
  by_cases hin : 0 ≤ i ∧ i < (n0 : Int)
  · obtain ⟨k, rfl⟩ : ∃ k : Nat, i = (k : Int) := ⟨i.toNat, by omega⟩
    obtain ⟨a, o, hA, hab, hq⟩ := Lq.at_ len14C (by omega) hs1.r0 (show k < S.C.length by rw [hs1.l0]; omega)
    subst hA
    rw [us14_nat] at hb
    obtain ⟨x, hx⟩ : ∃ x, gt14 S.C k = x := ⟨_, rfl⟩
    rw [hx] at hq hb
    obtain ⟨xu, hxe⟩ : ∃ z0, z0 = x := ⟨_, rfl⟩; subst hxe
    have p0 : w1.cell? ⟨a, o + k, none⟩ = some (.bool xu) := by have h := hq 0 _ rfl; rwa [Nat.mul_one] at h
    have i0 : (0 : Int) ≤ (k : Int) := by omega
    have i1 : (k : Int) < (n0 : Int) := by omega
    have HU : Hid (b = xu) := Lib.hid hb.symm
    clear hb hq hx hin hs hs1 hk1
    go_enter Try.func16, Try.ntmps16
    go_wp2_with fail
    go_ret
    exact ⟨by rw [HU.out]; rfl, hb1⟩
  · have HF : Hid (b = false) := Lib.hid (by rw [← hb]; exact us14_off def14C (by rw [hs1.l0]; exact hin))
    clear hb hs hs1 hk1
    by_cases h0 : 0 ≤ i
    · have h1 : ¬ i < (n0 : Int) := by omega
      have h2 : decide (i < (n0 : Int)) = false := decide_eq_false h1
      clear hin
      go_enter Try.func16, Try.ntmps16
      go_wp2_with fail
      go_ret
      exact ⟨by rw [HF.out]; rfl, hb1⟩
    · clear hin
      go_enter Try.func16, Try.ntmps16
      go_wp2_with fail
      go_ret
      exact ⟨by rw [HF.out]; rfl, hb1⟩
set_option maxHeartbeats 2000000 in
theorem rThread14 (v : Value) (S : Sv14) (i : Int) (b : Bool) (w : World) (h : St14 w v S) (hb : us14 usH S.H i = b) :
    Calls Try.prog 32 #[v, .int .i64 i] w fun e w' => e = .returned (.bool b) ∧ Below w.heap.size w w' := by
  obtain ⟨A0, A1, A2, A3, A4, n0, n1, n2, n3, n4, c0, c1, c2, c3, c4, sq, rfl, hs⟩ := h
  have hb1 := b1' w (.cells #[.slice A0 n0 c0, .slice A1 n1 c1, .slice A2 n2 c2, .slice A3 n3 c3, .slice A4 n4 c4, .int .i64 sq] 28)
  have hk1 := Blk.new w 28 #[.slice A0 n0 c0, .slice A1 n1 c1, .slice A2 n2 c2, .slice A3 n3 c3, .slice A4 n4 c4, .int .i64 sq]
  have hs1 := hs.step hb1
  obtain ⟨w1, hw1⟩ : ∃ W, w.alloc (.cells #[.slice A0 n0 c0, .slice A1 n1 c1, .slice A2 n2 c2, .slice A3 n3 c3, .slice A4 n4 c4, .int .i64 sq] 28) = W := ⟨_, rfl⟩
  rw [hw1] at hb1 hk1 hs1
  have q2 := hk1.cell 2
  by_cases hin : 0 ≤ i ∧ i < (n2 : Int)
  · obtain ⟨k, rfl⟩ : ∃ k : Nat, i = (k : Int) := ⟨i.toNat, by omega⟩
    obtain ⟨a, o, hA, hab, hq⟩ := Lq.at_ len14H (by omega) hs1.r2 (show k < S.H.length by rw [hs1.l2]; omega)
    subst hA
    rw [us14_nat] at hb
    obtain ⟨x, hx⟩ : ∃ x, gt14 S.H k = x := ⟨_, rfl⟩
    rw [hx] at hq hb
    obtain ⟨xz, xf, xc, xq, xu⟩ := x
    have p0 : w1.cell? ⟨a, o + k * 5, none⟩ = some (.int .i64 xz) := hq 0 _ rfl
    have i0 : (0 : Int) ≤ (k : Int) := by omega
    have i1 : (k : Int) < (n2 : Int) := by omega
    have HU : Hid (b = (xz != 0)) := Lib.hid (by rw [← hb]; by_cases h : xz = 0 <;> simp [usH, h])
    clear hb hq hx hin hs hs1 hk1
    go_enter Try.func32, Try.ntmps32
    go_wp2_with fail
    go_ret
    exact ⟨by rw [HU.out]; rfl, hb1⟩
  · have HF : Hid (b = false) := Lib.hid (by rw [← hb]; exact us14_off def14H (by rw [hs1.l2]; exact hin))
    clear hb hs hs1 hk1
    by_cases h0 : 0 ≤ i
    · have h1 : ¬ i < (n2 : Int) := by omega
      have h2 : decide (i < (n2 : Int)) = false := decide_eq_false h1
      clear hin
      go_enter Try.func32, Try.ntmps32
      go_wp2_with fail
      go_ret
      exact ⟨by rw [HF.out]; rfl, hb1⟩
    · clear hin
      go_enter Try.func32, Try.ntmps32
      go_wp2_with fail
      go_ret
      exact ⟨by rw [HF.out]; rfl, hb1⟩
set_option maxHeartbeats 2000000 in
theorem rLock14 (v : Value) (S : Sv14) (i : Int) (b : Bool) (w : World) (h : St14 w v S) (hb : us14 usL S.L i = b) :
    Calls Try.prog 33 #[v, .int .i64 i] w fun e w' => e = .returned (.bool b) ∧ Below w.heap.size w w' := by
  obtain ⟨A0, A1, A2, A3, A4, n0, n1, n2, n3, n4, c0, c1, c2, c3, c4, sq, rfl, hs⟩ := h
  have hb1 := b1' w (.cells #[.slice A0 n0 c0, .slice A1 n1 c1, .slice A2 n2 c2, .slice A3 n3 c3, .slice A4 n4 c4, .int .i64 sq] 28)
  have hk1 := Blk.new w 28 #[.slice A0 n0 c0, .slice A1 n1 c1, .slice A2 n2 c2, .slice A3 n3 c3, .slice A4 n4 c4, .int .i64 sq]
  have hs1 := hs.step hb1
  obtain ⟨w1, hw1⟩ : ∃ W, w.alloc (.cells #[.slice A0 n0 c0, .slice A1 n1 c1, .slice A2 n2 c2, .slice A3 n3 c3, .slice A4 n4 c4, .int .i64 sq] 28) = W := ⟨_, rfl⟩
  rw [hw1] at hb1 hk1 hs1
  have q3 := hk1.cell 3
  by_cases hin : 0 ≤ i ∧ i < (n3 : Int)
  · obtain ⟨k, rfl⟩ : ∃ k : Nat, i = (k : Int) := ⟨i.toNat, by omega⟩
    obtain ⟨a, o, hA, hab, hq⟩ := Lq.at_ len14L (by omega) hs1.r3 (show k < S.L.length by rw [hs1.l3]; omega)
    subst hA
    rw [us14_nat] at hb
    obtain ⟨x, hx⟩ : ∃ x, gt14 S.L k = x := ⟨_, rfl⟩
    rw [hx] at hq hb
    obtain ⟨xu, xh⟩ := x
    have p0 : w1.cell? ⟨a, o + k * 2, none⟩ = some (.bool xu) := hq 0 _ rfl
    have i0 : (0 : Int) ≤ (k : Int) := by omega
    have i1 : (k : Int) < (n3 : Int) := by omega
    have HU : Hid (b = xu) := Lib.hid hb.symm
    clear hb hq hx hin hs hs1 hk1
    go_enter Try.func33, Try.ntmps33
    go_wp2_with fail
    go_ret
    exact ⟨by rw [HU.out]; rfl, hb1⟩
  · have HF : Hid (b = false) := Lib.hid (by rw [← hb]; exact us14_off def14L (by rw [hs1.l3]; exact hin))
    clear hb hs hs1 hk1
    by_cases h0 : 0 ≤ i
    · have h1 : ¬ i < (n3 : Int) := by omega
      have h2 : decide (i < (n3 : Int)) = false := decide_eq_false h1
      clear hin
      go_enter Try.func33, Try.ntmps33
      go_wp2_with fail
      go_ret
      exact ⟨by rw [HF.out]; rfl, hb1⟩
    · clear hin
      go_enter Try.func33, Try.ntmps33
      go_wp2_with fail
      go_ret
      exact ⟨by rw [HF.out]; rfl, hb1⟩
end Go.Proofs.Ytllcmjdfgbiijaa
namespace Go.Proofs.Ytllcmjdfgbiijaa
open Go.RowKit
set_option maxRecDepth 100000
theorem ex_bool14 (P : Prop) : ∃ b : Bool, (b = true ↔ P) := by
  by_cases h : P
  · exact ⟨true, by simp [h]⟩
  · exact ⟨false, by simp [h]⟩
end Go.Proofs.Ytllcmjdfgbiijaa
namespace Go.Proofs.Ytllcmjdfgbiijaa
open Go.RowKit
set_option maxRecDepth 100000
theorem own14_blk {w : World} {b1 : Nat} {e1 t : TypeId} {k1 : Nat} {v1 : Value} {n1 g : Nat} {xs1 : List Value} {cs : Array Value} (h1 : w.ownsRow b1 e1 k1 v1 n1 xs1) (hb : Blk w g t cs) (hne : t ≠ e1) : some g ≠ v1.ownBlock := fun e' => by
  rcases h1.2 with ⟨rfl, _⟩ | ⟨g', cap, cur, rfl, _, hh, _⟩
  · cases e'
  · injection e' with e'
    subst e'
    rw [show w.heap[g]? = _ from hb] at hh
    cases hh
    exact hne rfl
end Go.Proofs.Ytllcmjdfgbiijaa
namespace Go.Proofs.Ytllcmjdfgbiijaa
open Go.RowKit
set_option maxRecDepth 100000
/-- May a ticket fund what it does? -/
def Target14 (S : Sv14) (t : Tk14) : Prop := t.k = 0 ∧ t.t = 0 ∨ t.k = 1 ∧ us14 usH S.H t.t = true ∨ t.k = 2 ∧ t.t ≠ 0 ∧ us14 usC S.C t.t = true
/-- May a ticket that is used be? -/
def Ticket14 (S : Sv14) (t : Tk14) : Prop := us14 usC S.C t.c = true ∧ 1 ≤ t.a ∧ t.a ≤ 1048576 ∧ Target14 S t
/-- May the i-th thread wait for what it does? -/
def For14 (S : Sv14) (i : Nat) (t : Th14) : Prop := t.s = 4 ∧ us14 usH S.H t.f = true ∧ t.f ≠ (i : Int) ∨ t.s = 6 ∧ us14 usL S.L t.f = true ∨ (t.s = 1 ∨ t.s = 2 ∨ t.s = 3 ∨ t.s = 5) ∧ t.f = -1
/-- May it serve whom it does? -/
def Client14 (S : Sv14) (i : Nat) (t : Th14) : Prop := t.c = -1 ∨ t.s ≠ 5 ∧ (at14 usH S.H t.c).s = 4 ∧ (at14 usH S.H t.c).f = (i : Int)
/-- May it have its factor? -/
def Factor14 (q : Int) (t : Th14) : Prop := t.q = 1 ∧ t.u = 1 ∨ 1 ≤ t.u ∧ t.u < t.q ∧ t.q ≤ q
/-- May a thread that is used be? -/
def Thrd14 (S : Sv14) (i : Nat) (t : Th14) : Prop := For14 S i t ∧ Client14 S i t ∧ Factor14 S.q t
/-- Is a thread Waiting for a lock? -/
def Waits14 (t : Th14) (l : Int) : Prop := t.s = 6 ∧ t.f = l
instance (t : Th14) (l : Int) : Decidable (Waits14 t l) := by unfold Waits14; infer_instance
/-- May a lock that is used have its Holder? -/
def Holder14 (S : Sv14) (i : Nat) (l : Lk14) : Prop := l.h = -1 ∧ (∀ j, j < S.H.length → ¬ Waits14 (gt14 S.H j) (i : Int)) ∨ l.h ≠ -1 ∧ us14 usH S.H l.h = true ∧ ¬ Waits14 (at14 usH S.H l.h) (i : Int)
/-- Does a thread belong into the Queue? -/
def Queues14 (S : Sv14) (i : Nat) (t : Th14) : Prop := t.s = 6 ∨ t.s = 4 ∧ (at14 usH S.H t.f).c ≠ (i : Int)
end Go.Proofs.Ytllcmjdfgbiijaa
namespace Go.Proofs.Ytllcmjdfgbiijaa
open Go.RowKit
set_option maxRecDepth 100000
def Tidies14 (S : Sv14) : Prop := Tidy14 usC S.C 16 ∧ Tidy14 usT S.T 96 ∧ Tidy14 usH S.H 32 ∧ Tidy14 usL S.L 8
def Tickets14 (S : Sv14) : Prop := ∀ j, j < S.T.length → usT (gt14 S.T j) = true → Ticket14 S (gt14 S.T j)
/-- How many of the first k run. -/
def runs14 (xs : List Th14) : Nat → Nat
  | 0 => 0
  | k + 1 => runs14 xs k + if (gt14 xs k).s = 3 then 1 else 0
theorem runs14_le (xs : List Th14) (k : Nat) : runs14 xs k ≤ k := by
  induction k with
  | zero => exact Nat.le_refl _
  | succ k ih => rw [runs14]; split <;> omega
def Threads14 (S : Sv14) : Prop := (∀ j, j < S.H.length → usH (gt14 S.H j) = true → Thrd14 S j (gt14 S.H j)) ∧ runs14 S.H S.H.length ≤ 1
def Locks14 (S : Sv14) : Prop := ∀ j, j < S.L.length → usL (gt14 S.L j) = true → Holder14 S j (gt14 S.L j)
/-- A boxed state. -/
structure Bx14 (w : World) (S : Sv14) (A0 A1 A2 A3 A4 : Option Addr) (n0 n1 n2 n3 n4 c0 c1 c2 c3 c4 : Nat) (sq : Int) (W : World) : Prop where
  b : Below w.heap.size w W
  x : Blk W w.heap.size 28 #[.slice A0 n0 c0, .slice A1 n1 c1, .slice A2 n2 c2, .slice A3 n3 c3, .slice A4 n4 c4, .int .i64 sq]
  s : SA14 W S A0 A1 A2 A3 A4 n0 n1 n2 n3 n4 c0 c1 c2 c3 c4 sq
theorem Bx14.step {w : World} {S : Sv14} {A0 A1 A2 A3 A4 : Option Addr} {n0 n1 n2 n3 n4 c0 c1 c2 c3 c4 : Nat} {sq : Int} {W W' : World} (h : Bx14 w S A0 A1 A2 A3 A4 n0 n1 n2 n3 n4 c0 c1 c2 c3 c4 sq W) (hb : Below W.heap.size W W') : Bx14 w S A0 A1 A2 A3 A4 n0 n1 n2 n3 n4 c0 c1 c2 c3 c4 sq W' :=
  ⟨h.b.trans (hb.mono h.b.size), h.x.below hb h.x.lt, h.s.step hb⟩
theorem Bx14.st {w : World} {S : Sv14} {A0 A1 A2 A3 A4 : Option Addr} {n0 n1 n2 n3 n4 c0 c1 c2 c3 c4 : Nat} {sq : Int} {W : World} (h : Bx14 w S A0 A1 A2 A3 A4 n0 n1 n2 n3 n4 c0 c1 c2 c3 c4 sq W) : St14 W (.agg #[.slice A0 n0 c0, .slice A1 n1 c1, .slice A2 n2 c2, .slice A3 n3 c3, .slice A4 n4 c4, .int .i64 sq]) S := ⟨A0, A1, A2, A3, A4, n0, n1, n2, n3, n4, c0, c1, c2, c3, c4, sq, rfl, h.s⟩
theorem Bx14.new {w : World} {S : Sv14} {A0 A1 A2 A3 A4 : Option Addr} {n0 n1 n2 n3 n4 c0 c1 c2 c3 c4 : Nat} {sq : Int} (h : SA14 w S A0 A1 A2 A3 A4 n0 n1 n2 n3 n4 c0 c1 c2 c3 c4 sq) : Bx14 w S A0 A1 A2 A3 A4 n0 n1 n2 n3 n4 c0 c1 c2 c3 c4 sq (w.alloc (.cells #[.slice A0 n0 c0, .slice A1 n1 c1, .slice A2 n2 c2, .slice A3 n3 c3, .slice A4 n4 c4, .int .i64 sq] 28)) := ⟨b1' w _, Blk.new w _ _, h.step (b1' w _)⟩
end Go.Proofs.Ytllcmjdfgbiijaa
