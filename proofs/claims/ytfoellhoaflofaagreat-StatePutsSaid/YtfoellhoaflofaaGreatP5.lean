/-
  SaidStatePuts, part 5 of 26: what the theorem statePuts_holds reaches.
-/
import Derived.Test.YtfoellhoaflofaaGreatP4
namespace Go.Proofs.YtfoellhoaflofaaGreat
open Go.RowKit
set_option maxRecDepth 100000
theorem fields14H : Tryz.prog.underlying 45 = some (.struct (Tryz.prog.fieldsOf 45)) := by kernel_rfl
theorem held14H : Tryz.prog.stoodInHeld 45 = false := by kernel_rfl
theorem guard14H : Tryz.prog.eqGuardType Tryz.prog.depth 45 = false := by kernel_rfl
set_option maxHeartbeats 4000000 in
theorem neq14H (xz : Int) (xf : Int) (xc : Int) (xq : Int) (xu : Int) (yz : Int) (yf : Int) (yc : Int) (yq : Int) (yu : Int) (w : World) : (binOp .neq 45 (.agg #[.int .i64 xz, .int .i64 xf, .int .i64 xc, .int .i64 xq, .int .i64 xu]) (.agg #[.int .i64 yz, .int .i64 yf, .int .i64 yc, .int .i64 yq, .int .i64 yu])).run Tryz.prog w = .ok (.bool (!decide ((⟨xz, xf, xc, xq, xu⟩ : Th14) = ⟨yz, yf, yc, yq, yu⟩))) w := by
  have u3 := Tryz.underlying3
  have u4 := Tryz.underlying4
  have a3 := Tryz.isAgg3
  have a4 := Tryz.isAgg4
  have z3 := Tryz.sizeOf3
  have z4 := Tryz.sizeOf4
  rw [run_neq_struct, show (10000 : Nat) = 9999 + 1 from rfl, run_equalIn_agg w 9999 45 _ _ fields14H held14H]
  simp only [Program.fieldsOf, Tryz.underlying45]
  go_simp
  by_cases e0 : xz = yz
  case neg => simp [e0]
  by_cases e1 : xf = yf
  case neg => simp [e0, e1]
  by_cases e2 : xc = yc
  case neg => simp [e0, e1, e2]
  by_cases e3 : xq = yq
  case neg => simp [e0, e1, e2, e3]
  by_cases e4 : xu = yu
  case neg => simp [e0, e1, e2, e3, e4]
  simp [e0, e1, e2, e3, e4]
theorem def14H : usH default = false := rfl
set_option maxHeartbeats 4000000 in
theorem at14H_no (A : Option Addr) (xs : List Th14) (n c : Nat) (i : Int) (w : World) (hl : xs.length = n) (hr : Lq clH w w.heap.size A xs) (hn : n ≤ 1000000) (hu : us14 usH xs i = false) :
    Calls Tryz.prog 78 #[.slice A n c, .int .i64 i, .func (.func 68) #[] #[]] w fun e w' => e = .returned (.tuple #[.agg #[.int .i64 0, .int .i64 0, .int .i64 0, .int .i64 0, .int .i64 0], .bool false]) ∧ Below w.heap.size w w' := by
  have HB0 := Lib.hid (b1' w (.cells #[.int .i64 0, .int .i64 0, .int .i64 0, .int .i64 0, .int .i64 0] 45))
  have HK := Lib.hid (Blk.new w 45 #[.int .i64 0, .int .i64 0, .int .i64 0, .int .i64 0, .int .i64 0])
  have fin : ∀ W, Below w.heap.size w W → Blk W w.heap.size 45 #[.int .i64 0, .int .i64 0, .int .i64 0, .int .i64 0, .int .i64 0] → ∃ W2, W2 = (((((W.setCell ⟨w.heap.size, 0, none⟩ (.int .i64 0)).setCell ⟨w.heap.size, 1, none⟩ (.int .i64 0)).setCell ⟨w.heap.size, 2, none⟩ (.int .i64 0)).setCell ⟨w.heap.size, 3, none⟩ (.int .i64 0)).setCell ⟨w.heap.size, 4, none⟩ (.int .i64 0)) ∧ Blk W2 w.heap.size 45 #[.int .i64 0, .int .i64 0, .int .i64 0, .int .i64 0, .int .i64 0] ∧ Below w.heap.size w W2 := fun W hB hK => ⟨_, rfl,
    by
      have h := ((((hK.set_ 0 (.int .i64 0)).set_ 1 (.int .i64 0)).set_ 2 (.int .i64 0)).set_ 3 (.int .i64 0)).set_ 4 (.int .i64 0)
      simpa using h,
    ((((hB.setCell (p := ⟨w.heap.size, 0, none⟩) (Nat.le_refl _) (.int .i64 0)).setCell (p := ⟨w.heap.size, 1, none⟩) (Nat.le_refl _) (.int .i64 0)).setCell (p := ⟨w.heap.size, 2, none⟩) (Nat.le_refl _) (.int .i64 0)).setCell (p := ⟨w.heap.size, 3, none⟩) (Nat.le_refl _) (.int .i64 0)).setCell (p := ⟨w.heap.size, 4, none⟩) (Nat.le_refl _) (.int .i64 0)⟩
  have HF := Lib.hid fin
  by_cases h : 0 ≤ i ∧ i < (n : Int)
  · obtain ⟨k, rfl⟩ : ∃ k : Nat, i = (k : Int) := ⟨i.toNat, by omega⟩
    have hk : k < n := by omega
    obtain ⟨b, o, hA, hab, hq⟩ := Lq.at_ len14H (by omega) hr (show k < xs.length by omega)
    subst hA
    obtain ⟨x, hx⟩ : ∃ x, gt14 xs k = x := ⟨_, rfl⟩
    rw [us14_nat, hx] at hu
    rw [hx] at hq
    obtain ⟨xz, xf, xc, xq, xu⟩ := x
    have hq' : ∀ i v, (clH ⟨xz, xf, xc, xq, xu⟩)[i]? = some v → (w.alloc (.cells #[.int .i64 0, .int .i64 0, .int .i64 0, .int .i64 0, .int .i64 0] 45)).cell? ⟨b, o + k * 5 + i, none⟩ = some v := fun i v hv => (HB0.out.cell hab).trans (hq i v hv)
    have q0 : (w.alloc (.cells #[.int .i64 0, .int .i64 0, .int .i64 0, .int .i64 0, .int .i64 0] 45)).cell? ⟨b, o + k * 5, none⟩ = some (.int .i64 xz) := hq' 0 _ rfl
    have q1 : (w.alloc (.cells #[.int .i64 0, .int .i64 0, .int .i64 0, .int .i64 0, .int .i64 0] 45)).cell? ⟨b, o + k * 5 + 1, none⟩ = some (.int .i64 xf) := hq' 1 _ rfl
    have q2 : (w.alloc (.cells #[.int .i64 0, .int .i64 0, .int .i64 0, .int .i64 0, .int .i64 0] 45)).cell? ⟨b, o + k * 5 + 2, none⟩ = some (.int .i64 xc) := hq' 2 _ rfl
    have q3 : (w.alloc (.cells #[.int .i64 0, .int .i64 0, .int .i64 0, .int .i64 0, .int .i64 0] 45)).cell? ⟨b, o + k * 5 + 3, none⟩ = some (.int .i64 xq) := hq' 3 _ rfl
    have q4 : (w.alloc (.cells #[.int .i64 0, .int .i64 0, .int .i64 0, .int .i64 0, .int .i64 0] 45)).cell? ⟨b, o + k * 5 + 4, none⟩ = some (.int .i64 xu) := hq' 4 _ rfl
    have i0 : (0 : Int) ≤ (k : Int) := by omega
    have i1 : (k : Int) < (n : Int) := by omega
    have HW := Lib.hid (fun W => within14 (k : Int) (n : Int) true (by simp; omega) W)
    have HU := Lib.hid (fun W => used14H xz xf xc xq xu false hu W)
    clear hq hq' hx hu fin hr hl h
    go_enter Tryz.func78, Tryz.ntmps78
    go_wp2_with fail
    refine (HW.out _).mono ?_
    rintro e w0 ⟨rfl, rfl⟩
    clear HW
    go_wp2_with fail
    refine (HU.out _).mono ?_
    rintro e w1 ⟨rfl, hb1⟩
    have HB1 := Lib.hid (HB0.out.trans (hb1.mono HB0.out.size))
    have HK1 := Lib.hid (HK.out.below hb1 HK.out.lt)
    clear HU hb1
    obtain ⟨w2, hw2⟩ : ∃ W, w1.alloc (.cells #[.int .i64 0, .int .i64 0, .int .i64 0, .int .i64 0, .int .i64 0] 45) = W := ⟨_, rfl⟩
    have hb2 := HB1.out.alloc HB1.out.size (.cells #[.int .i64 0, .int .i64 0, .int .i64 0, .int .i64 0, .int .i64 0] 45)
    have hk2 := HK1.out.alloc (.cells #[.int .i64 0, .int .i64 0, .int .i64 0, .int .i64 0, .int .i64 0] 45)
    have hn2 := Blk.new w1 45 #[.int .i64 0, .int .i64 0, .int .i64 0, .int .i64 0, .int .i64 0]
    rw [hw2] at hb2 hk2 hn2
    obtain ⟨w3, hw3, hk3, hb3⟩ := HF.out w2 hb2 hk2
    have n0 := hn2.cell 0
    have n1 := hn2.cell 1
    have n2 := hn2.cell 2
    have n3 := hn2.cell 3
    have n4 := hn2.cell 4
    have k0 := hk2.cell 0
    have l0 := hk2.frozen 0
    have k1 := hk2.cell 1
    have l1 := hk2.frozen 1
    have k2 := hk2.cell 2
    have l2 := hk2.frozen 2
    have k3 := hk2.cell 3
    have l3 := hk2.frozen 3
    have k4 := hk2.cell 4
    have l4 := hk2.frozen 4
    have s0 := hk3.cell 0
    have g0 := hk3.frozen 0
    have s1 := hk3.cell 1
    have g1 := hk3.frozen 1
    have s2 := hk3.cell 2
    have g2 := hk3.frozen 2
    have s3 := hk3.cell 3
    have g3 := hk3.frozen 3
    have s4 := hk3.cell 4
    have g4 := hk3.frozen 4
    have HB3 := Lib.hid hb3
    clear hn2 hk2 hb2 hk3 hb3 HF
    go_wp2_with fail
    exact bodyPost_ret (v := .tuple #[.agg #[.int .i64 0, .int .i64 0, .int .i64 0, .int .i64 0, .int .i64 0], .bool false]) (by rw [← hw3]; simp [results, Tryz.results78, go_sem, s0, s1, s2, s3, s4, g0, g1, g2, g3, g4]) rfl ⟨rfl, by rw [← hw3]; exact HB3.out⟩
  · have HW := Lib.hid (fun W => within14 i (n : Int) false (by simpa using h) W)
    clear hu hr hl h fin
    obtain ⟨w1, hw1⟩ : ∃ W, w.alloc (.cells #[.int .i64 0, .int .i64 0, .int .i64 0, .int .i64 0, .int .i64 0] 45) = W := ⟨_, rfl⟩
    rw [hw1] at HB0 HK
    obtain ⟨w2, hw2⟩ : ∃ W, w1.alloc (.cells #[.int .i64 0, .int .i64 0, .int .i64 0, .int .i64 0, .int .i64 0] 45) = W := ⟨_, rfl⟩
    have hb2 := HB0.out.alloc HB0.out.size (.cells #[.int .i64 0, .int .i64 0, .int .i64 0, .int .i64 0, .int .i64 0] 45)
    have hk2 := HK.out.alloc (.cells #[.int .i64 0, .int .i64 0, .int .i64 0, .int .i64 0, .int .i64 0] 45)
    have hn2 := Blk.new w1 45 #[.int .i64 0, .int .i64 0, .int .i64 0, .int .i64 0, .int .i64 0]
    rw [hw2] at hb2 hk2 hn2
    obtain ⟨w3, hw3, hk3, hb3⟩ := HF.out w2 hb2 hk2
    have n0 := hn2.cell 0
    have n1 := hn2.cell 1
    have n2 := hn2.cell 2
    have n3 := hn2.cell 3
    have n4 := hn2.cell 4
    have k0 := hk2.cell 0
    have l0 := hk2.frozen 0
    have k1 := hk2.cell 1
    have l1 := hk2.frozen 1
    have k2 := hk2.cell 2
    have l2 := hk2.frozen 2
    have k3 := hk2.cell 3
    have l3 := hk2.frozen 3
    have k4 := hk2.cell 4
    have l4 := hk2.frozen 4
    have s0 := hk3.cell 0
    have g0 := hk3.frozen 0
    have s1 := hk3.cell 1
    have g1 := hk3.frozen 1
    have s2 := hk3.cell 2
    have g2 := hk3.frozen 2
    have s3 := hk3.cell 3
    have g3 := hk3.frozen 3
    have s4 := hk3.cell 4
    have g4 := hk3.frozen 4
    have HB3 := Lib.hid hb3
    clear hn2 hk2 hb2 hk3 hb3 HF
    go_enter Tryz.func78, Tryz.ntmps78
    go_wp2_with fail
    refine (HW.out _).mono ?_
    rintro e w0 ⟨rfl, rfl⟩
    clear HW
    go_wp2_with fail
    exact bodyPost_ret (v := .tuple #[.agg #[.int .i64 0, .int .i64 0, .int .i64 0, .int .i64 0, .int .i64 0], .bool false]) (by rw [← hw3]; simp [results, Tryz.results78, go_sem, s0, s1, s2, s3, s4, g0, g1, g2, g3, g4]) rfl ⟨rfl, by rw [← hw3]; exact HB3.out⟩
set_option maxHeartbeats 4000000 in
theorem at14H_yes (A : Option Addr) (xs : List Th14) (n c k : Nat) (xz : Int) (xf : Int) (xc : Int) (xq : Int) (xu : Int) (w : World) (hl : xs.length = n) (hr : Lq clH w w.heap.size A xs) (hn : n ≤ 1000000) (hk : k < n) (hx : gt14 xs k = ⟨xz, xf, xc, xq, xu⟩) (hu : usH ⟨xz, xf, xc, xq, xu⟩ = true) :
    Calls Tryz.prog 78 #[.slice A n c, .int .i64 (k : Int), .func (.func 68) #[] #[]] w fun e w' => e = .returned (.tuple #[.agg #[.int .i64 xz, .int .i64 xf, .int .i64 xc, .int .i64 xq, .int .i64 xu], .bool true]) ∧ Below w.heap.size w w' := by
  have HB0 := Lib.hid (b1' w (.cells #[.int .i64 0, .int .i64 0, .int .i64 0, .int .i64 0, .int .i64 0] 45))
  have HK := Lib.hid (Blk.new w 45 #[.int .i64 0, .int .i64 0, .int .i64 0, .int .i64 0, .int .i64 0])
  obtain ⟨b, o, hA, hab, hq⟩ := Lq.at_ len14H (by omega) hr (show k < xs.length by omega)
  subst hA
  rw [hx] at hq
  have hq' : ∀ i v, (clH ⟨xz, xf, xc, xq, xu⟩)[i]? = some v → (w.alloc (.cells #[.int .i64 0, .int .i64 0, .int .i64 0, .int .i64 0, .int .i64 0] 45)).cell? ⟨b, o + k * 5 + i, none⟩ = some v := fun i v hv => (HB0.out.cell hab).trans (hq i v hv)
  have HAB : Hid (b < (w.alloc (.cells #[.int .i64 0, .int .i64 0, .int .i64 0, .int .i64 0, .int .i64 0] 45)).heap.size) := Lib.hid (by simp; omega)
  have HQ := Lib.hid hq'
  have q0 : (w.alloc (.cells #[.int .i64 0, .int .i64 0, .int .i64 0, .int .i64 0, .int .i64 0] 45)).cell? ⟨b, o + k * 5, none⟩ = some (.int .i64 xz) := hq' 0 _ rfl
  have q1 : (w.alloc (.cells #[.int .i64 0, .int .i64 0, .int .i64 0, .int .i64 0, .int .i64 0] 45)).cell? ⟨b, o + k * 5 + 1, none⟩ = some (.int .i64 xf) := hq' 1 _ rfl
  have q2 : (w.alloc (.cells #[.int .i64 0, .int .i64 0, .int .i64 0, .int .i64 0, .int .i64 0] 45)).cell? ⟨b, o + k * 5 + 2, none⟩ = some (.int .i64 xc) := hq' 2 _ rfl
  have q3 : (w.alloc (.cells #[.int .i64 0, .int .i64 0, .int .i64 0, .int .i64 0, .int .i64 0] 45)).cell? ⟨b, o + k * 5 + 3, none⟩ = some (.int .i64 xq) := hq' 3 _ rfl
  have q4 : (w.alloc (.cells #[.int .i64 0, .int .i64 0, .int .i64 0, .int .i64 0, .int .i64 0] 45)).cell? ⟨b, o + k * 5 + 4, none⟩ = some (.int .i64 xu) := hq' 4 _ rfl
  have i0 : (0 : Int) ≤ (k : Int) := by omega
  have i1 : (k : Int) < (n : Int) := by omega
  have HW := Lib.hid (fun W => within14 (k : Int) (n : Int) true (by simp; omega) W)
  have HU := Lib.hid (fun W => used14H xz xf xc xq xu true hu W)
  clear hq hq' hx hu hr hl
  go_enter Tryz.func78, Tryz.ntmps78
  go_wp2_with fail
  refine (HW.out _).mono ?_
  rintro e w0 ⟨rfl, rfl⟩
  clear HW
  go_wp2_with fail
  refine (HU.out _).mono ?_
  rintro e w1 ⟨rfl, hb1⟩
  have hq1 : ∀ i v, (clH ⟨xz, xf, xc, xq, xu⟩)[i]? = some v → w1.cell? ⟨b, o + k * 5 + i, none⟩ = some v := fun i v hv => (hb1.cell HAB.out).trans (HQ.out i v hv)
  have p0 : w1.cell? ⟨b, o + k * 5, none⟩ = some (.int .i64 xz) := hq1 0 _ rfl
  have p1 : w1.cell? ⟨b, o + k * 5 + 1, none⟩ = some (.int .i64 xf) := hq1 1 _ rfl
  have p2 : w1.cell? ⟨b, o + k * 5 + 2, none⟩ = some (.int .i64 xc) := hq1 2 _ rfl
  have p3 : w1.cell? ⟨b, o + k * 5 + 3, none⟩ = some (.int .i64 xq) := hq1 3 _ rfl
  have p4 : w1.cell? ⟨b, o + k * 5 + 4, none⟩ = some (.int .i64 xu) := hq1 4 _ rfl
  have hK1 := HK.out.below hb1 HK.out.lt
  have k0 := hK1.cell 0
  have l0 := hK1.frozen 0
  have k1 := hK1.cell 1
  have l1 := hK1.frozen 1
  have k2 := hK1.cell 2
  have l2 := hK1.frozen 2
  have k3 := hK1.cell 3
  have l3 := hK1.frozen 3
  have k4 := hK1.cell 4
  have l4 := hK1.frozen 4
  have hK2 : Blk (((((w1.setCell ⟨w.heap.size, 0, none⟩ (.int .i64 xz)).setCell ⟨w.heap.size, 1, none⟩ (.int .i64 xf)).setCell ⟨w.heap.size, 2, none⟩ (.int .i64 xc)).setCell ⟨w.heap.size, 3, none⟩ (.int .i64 xq)).setCell ⟨w.heap.size, 4, none⟩ (.int .i64 xu)) w.heap.size 45 #[.int .i64 xz, .int .i64 xf, .int .i64 xc, .int .i64 xq, .int .i64 xu] := by
    have h := ((((hK1.set_ 0 (.int .i64 xz)).set_ 1 (.int .i64 xf)).set_ 2 (.int .i64 xc)).set_ 3 (.int .i64 xq)).set_ 4 (.int .i64 xu)
    simpa using h
  have HB2 : Hid (Below w.heap.size w (((((w1.setCell ⟨w.heap.size, 0, none⟩ (.int .i64 xz)).setCell ⟨w.heap.size, 1, none⟩ (.int .i64 xf)).setCell ⟨w.heap.size, 2, none⟩ (.int .i64 xc)).setCell ⟨w.heap.size, 3, none⟩ (.int .i64 xq)).setCell ⟨w.heap.size, 4, none⟩ (.int .i64 xu))) := Lib.hid (by
    have hB := HB0.out.trans (hb1.mono HB0.out.size)
    exact ((((hB.setCell (p := ⟨w.heap.size, 0, none⟩) (Nat.le_refl _) (.int .i64 xz)).setCell (p := ⟨w.heap.size, 1, none⟩) (Nat.le_refl _) (.int .i64 xf)).setCell (p := ⟨w.heap.size, 2, none⟩) (Nat.le_refl _) (.int .i64 xc)).setCell (p := ⟨w.heap.size, 3, none⟩) (Nat.le_refl _) (.int .i64 xq)).setCell (p := ⟨w.heap.size, 4, none⟩) (Nat.le_refl _) (.int .i64 xu))
  have s0 := hK2.cell 0
  have g0 := hK2.frozen 0
  have s1 := hK2.cell 1
  have g1 := hK2.frozen 1
  have s2 := hK2.cell 2
  have g2 := hK2.frozen 2
  have s3 := hK2.cell 3
  have g3 := hK2.frozen 3
  have s4 := hK2.cell 4
  have g4 := hK2.frozen 4
  clear HU hb1 hq1 hK1 hK2
  go_wp2_with fail
  exact bodyPost_ret (v := .tuple #[.agg #[.int .i64 xz, .int .i64 xf, .int .i64 xc, .int .i64 xq, .int .i64 xu], .bool true]) (by simp [results, Tryz.results78, go_sem, s0, s1, s2, s3, s4, g0, g1, g2, g3, g4]) rfl ⟨rfl, HB2.out⟩
set_option maxHeartbeats 4000000 in
theorem tid14H (xz : Int) (xf : Int) (xc : Int) (xq : Int) (xu : Int) (gu gz : Nat) (w : World) (hu : w.cell? ⟨gu, 0, none⟩ = some (.func (.func 68) #[] #[])) (z0 : w.cell? ⟨gz, 0, none⟩ = some (.int .i64 0)) (z1 : w.cell? ⟨gz, 1, none⟩ = some (.int .i64 0)) (z2 : w.cell? ⟨gz, 2, none⟩ = some (.int .i64 0)) (z3 : w.cell? ⟨gz, 3, none⟩ = some (.int .i64 0)) (z4 : w.cell? ⟨gz, 4, none⟩ = some (.int .i64 0)) (b : Bool) (hb : b = (!usH ⟨xz, xf, xc, xq, xu⟩ && !decide ((⟨xz, xf, xc, xq, xu⟩ : Th14) = default))) :
    Calls Tryz.prog 111 #[.agg #[.int .i64 xz, .int .i64 xf, .int .i64 xc, .int .i64 xq, .int .i64 xu], .pointer (some ⟨gu, 0, none⟩), .pointer (some ⟨gz, 0, none⟩)] w fun e w' => e = .returned (.bool b) ∧ Below w.heap.size w w' := by
  have hk := Blk.new w 45 #[.int .i64 xz, .int .i64 xf, .int .i64 xc, .int .i64 xq, .int .i64 xu]
  have c0 := hk.cell 0
  have c1 := hk.cell 1
  have c2 := hk.cell 2
  have c3 := hk.cell 3
  have c4 := hk.cell 4
  have hb1 := b1' w (.cells #[.int .i64 xz, .int .i64 xf, .int .i64 xc, .int .i64 xq, .int .i64 xu] 45)
  have u0 := (hb1.cell (p := ⟨gu, 0, none⟩) (World.block_lt_of_cell? w _ hu)).trans hu
  obtain ⟨w1, hw1⟩ : ∃ W, w.alloc (.cells #[.int .i64 xz, .int .i64 xf, .int .i64 xc, .int .i64 xq, .int .i64 xu] 45) = W := ⟨_, rfl⟩
  rw [hw1] at hb1 u0 c0 c1 c2 c3 c4
  have HB1 := Lib.hid hb1
  have HGZ := Lib.hid (World.block_lt_of_cell? w _ z0)
  have HZ0 := Lib.hid z0
  have HZ1 := Lib.hid z1
  have HZ2 := Lib.hid z2
  have HZ3 := Lib.hid z3
  have HZ4 := Lib.hid z4
  have HC0 := Lib.hid c0
  have HC1 := Lib.hid c1
  have HC2 := Lib.hid c2
  have HC3 := Lib.hid c3
  have HC4 := Lib.hid c4
  have HSZ : Hid (w.heap.size < w1.heap.size) := Lib.hid (by rw [← hw1]; simp)
  obtain ⟨bu, hbu⟩ : ∃ y, usH ⟨xz, xf, xc, xq, xu⟩ = y := ⟨_, rfl⟩
  have HU := Lib.hid (fun W => used14H xz xf xc xq xu bu hbu W)
  rw [hbu] at hb
  clear hu hb1 hbu z0 z1 z2 z3 z4 hk
  cases bu with
  | true =>
    obtain rfl : b = false := by rw [hb]; rfl
    clear hb
    go_enter Tryz.func111, Tryz.ntmps111
    go_wp2_with fail
    refine (HU.out _).mono ?_
    rintro e w2 ⟨rfl, hb2⟩
    have HB2 := Lib.hid (HB1.out.trans (hb2.mono HB1.out.size))
    clear HU hb2
    go_wp2_with fail
    go_ret
    exact ⟨rfl, HB2.out⟩
  | false =>
    have hneq := neq14H xz xf xc xq xu 0 0 0 0 0
    obtain ⟨bz, hbz⟩ : ∃ y, decide ((⟨xz, xf, xc, xq, xu⟩ : Th14) = (⟨0, 0, 0, 0, 0⟩ : Th14)) = y := ⟨_, rfl⟩
    rw [hbz] at hneq
    have hgd := guard14H
    obtain rfl : b = !bz := by rw [hb, ← hbz]; rfl
    clear hb hbz
    go_enter Tryz.func111, Tryz.ntmps111
    go_wp2_with fail
    refine (HU.out _).mono ?_
    rintro e w2 ⟨rfl, hb2⟩
    have HB2 := Lib.hid (HB1.out.trans (hb2.mono HB1.out.size))
    have y0 := ((HB1.out.trans (hb2.mono HB1.out.size)).cell (p := ⟨gz, 0, none⟩) HGZ.out).trans HZ0.out
    have y1 := ((HB1.out.trans (hb2.mono HB1.out.size)).cell (p := ⟨gz, 1, none⟩) HGZ.out).trans HZ1.out
    have y2 := ((HB1.out.trans (hb2.mono HB1.out.size)).cell (p := ⟨gz, 2, none⟩) HGZ.out).trans HZ2.out
    have y3 := ((HB1.out.trans (hb2.mono HB1.out.size)).cell (p := ⟨gz, 3, none⟩) HGZ.out).trans HZ3.out
    have y4 := ((HB1.out.trans (hb2.mono HB1.out.size)).cell (p := ⟨gz, 4, none⟩) HGZ.out).trans HZ4.out
    have d0 := (hb2.cell (p := ⟨w.heap.size, 0, none⟩) HSZ.out).trans HC0.out
    have d1 := (hb2.cell (p := ⟨w.heap.size, 1, none⟩) HSZ.out).trans HC1.out
    have d2 := (hb2.cell (p := ⟨w.heap.size, 2, none⟩) HSZ.out).trans HC2.out
    have d3 := (hb2.cell (p := ⟨w.heap.size, 3, none⟩) HSZ.out).trans HC3.out
    have d4 := (hb2.cell (p := ⟨w.heap.size, 4, none⟩) HSZ.out).trans HC4.out
    clear HU hb2
    go_wp2_with fail
    go_ret
    exact ⟨rfl, HB2.out⟩
set_option maxHeartbeats 4000000 in
theorem idx14Ht (A : Option Addr) (xs : List Th14) (n c : Nat) (gu gz : Nat) (w : World) (hl : xs.length = n) (hr : Lq clH w w.heap.size A xs) (hn : n ≤ 1000000) (p : Th14 → Bool)
    (hcl : ∀ W, Below w.heap.size w W → ∀ (xz : Int) (xf : Int) (xc : Int) (xq : Int) (xu : Int), Calls Tryz.prog 111 #[.agg #[.int .i64 xz, .int .i64 xf, .int .i64 xc, .int .i64 xq, .int .i64 xu], .pointer (some ⟨gu, 0, none⟩), .pointer (some ⟨gz, 0, none⟩)] W fun e w' => e = .returned (.bool (p ⟨xz, xf, xc, xq, xu⟩)) ∧ Below W.heap.size W w')
    (b : Bool) (hb : b = true ↔ ∃ j, j < n ∧ p (gt14 xs j) = true) :
    Calls Tryz.prog 125 #[.slice A n c, .func (.func 111) #[] #[.pointer (some ⟨gu, 0, none⟩), .pointer (some ⟨gz, 0, none⟩)]] w fun e w' => ∃ r : Int, e = .returned (.int .i64 r) ∧ (b = true → 0 ≤ r) ∧ (b = false → r = -1) ∧ Below w.heap.size w w' := by
  have HL := Lib.hid hl
  have HR := Lib.hid hr
  have HC := Lib.hid hcl
  have HB := Lib.hid hb
  clear hl hr hcl hb
  go_enter Tryz.func125, Tryz.ntmps125
  go_wp2_with fail
  go_loopw [8] (fun i wr => ∃ k : Nat, i = .int .i64 (k : Int) ∧ k ≤ n ∧ Hid (∀ j, j < k → p (gt14 xs j) = false) ∧ Hid (Below w.heap.size w wr)) (fun i _ => n - (intOf i).toNat)
  case atStart => exact ⟨0, rfl, by omega, Lib.hid (fun j h => by omega), Lib.hid (Below.refl _ _)⟩
  case round =>
    obtain ⟨k, rfl, hk, HN, HG⟩ := hrel
    by_cases hkn : k < n
    · obtain ⟨g, o, hA, hab, hq⟩ := Lq.at_ len14H (by omega) (Lq.below HR.out HG.out (Nat.le_refl _)) (show k < xs.length by have := HL.out; omega)
      subst hA
      obtain ⟨x, hx⟩ : ∃ x, gt14 xs k = x := ⟨_, rfl⟩
      rw [hx] at hq
      obtain ⟨bp, hbp⟩ : ∃ y, p x = y := ⟨_, rfl⟩
      have HX : Hid (p (gt14 xs k) = bp) := Lib.hid (by rw [hx]; exact hbp)
      obtain ⟨xz, xf, xc, xq, xu⟩ := x
      have q0 : wr.cell? ⟨g, o + k * 5, none⟩ = some (.int .i64 xz) := hq 0 _ rfl
      have q1 : wr.cell? ⟨g, o + k * 5 + 1, none⟩ = some (.int .i64 xf) := hq 1 _ rfl
      have q2 : wr.cell? ⟨g, o + k * 5 + 2, none⟩ = some (.int .i64 xc) := hq 2 _ rfl
      have q3 : wr.cell? ⟨g, o + k * 5 + 3, none⟩ = some (.int .i64 xq) := hq 3 _ rfl
      have q4 : wr.cell? ⟨g, o + k * 5 + 4, none⟩ = some (.int .i64 xu) := hq 4 _ rfl
      have i0 : (0 : Int) ≤ (k : Int) := by omega
      have i1 : (k : Int) < (n : Int) := by omega
      have hc := HC.out _ HG.out xz xf xc xq xu
      rw [hbp] at hc
      have HCK := Lib.hid hc
      clear hq hx hbp hc
      cases bp with
      | true =>
        have HBT : Hid (b = true) := Lib.hid (HB.out.2 ⟨k, hkn, HX.out⟩)
        go_wp2_with fail
        refine HCK.out.mono ?_
        rintro e w1 ⟨rfl, hb1⟩
        have HG1 := Lib.hid (HG.out.trans (hb1.mono HG.out.size))
        clear HCK hb1
        go_wp2_with fail
        go_ret
        exact ⟨(k : Int), rfl, fun _ => by omega, fun h => (by rw [HBT.out] at h; cases h), HG1.out⟩
      | false =>
        go_wp2_with fail
        refine HCK.out.mono ?_
        rintro e w1 ⟨rfl, hb1⟩
        have HG1 := Lib.hid (HG.out.trans (hb1.mono HG.out.size))
        clear HCK hb1
        go_wp2_with fail
        go_roundw
        case rel => exact ⟨k + 1, by go_num, by omega, Lib.hid (fun j hj => by
          rcases (show j < k ∨ j = k by omega) with h5 | h5
          · exact HN.out j h5
          · rw [h5]; exact HX.out), HG1⟩
        case measure => simp [intOf]; omega
    · have HBF : Hid (b = false) := Lib.hid (by
        cases hbb : b with
        | false => rfl
        | true =>
          obtain ⟨j, h1, h2⟩ := HB.out.1 hbb
          rw [HN.out j (by omega)] at h2
          cases h2)
      go_wp2_with fail
      go_ret
      exact ⟨-1, rfl, fun h => (by rw [HBF.out] at h; cases h), fun _ => rfl, HG.out⟩
set_option maxHeartbeats 2000000 in
theorem cont14Ht (A : Option Addr) (xs : List Th14) (n c : Nat) (gu gz : Nat) (w : World) (hl : xs.length = n) (hr : Lq clH w w.heap.size A xs) (hn : n ≤ 1000000) (p : Th14 → Bool)
    (hcl : ∀ W, Below w.heap.size w W → ∀ (xz : Int) (xf : Int) (xc : Int) (xq : Int) (xu : Int), Calls Tryz.prog 111 #[.agg #[.int .i64 xz, .int .i64 xf, .int .i64 xc, .int .i64 xq, .int .i64 xu], .pointer (some ⟨gu, 0, none⟩), .pointer (some ⟨gz, 0, none⟩)] W fun e w' => e = .returned (.bool (p ⟨xz, xf, xc, xq, xu⟩)) ∧ Below W.heap.size W w')
    (b : Bool) (hb : b = true ↔ ∃ j, j < n ∧ p (gt14 xs j) = true) :
    Calls Tryz.prog 110 #[.slice A n c, .func (.func 111) #[] #[.pointer (some ⟨gu, 0, none⟩), .pointer (some ⟨gz, 0, none⟩)]] w fun e w' => e = .returned (.bool b) ∧ Below w.heap.size w w' := by
  have HI := Lib.hid (idx14Ht A xs n c gu gz w hl hr hn p hcl b hb)
  clear hl hr hcl hb
  go_enter Tryz.func110, Tryz.ntmps110
  go_wp2_with fail
  refine HI.out.mono ?_
  rintro e w1 ⟨r, rfl, h1, h2, hb1⟩
  clear HI
  cases b with
  | true =>
    have hr0 := h1 rfl
    clear h1 h2
    go_wp2_with fail
    go_ret
    exact ⟨rfl, hb1⟩
  | false =>
    obtain rfl := h2 rfl
    clear h1 h2
    go_wp2_with fail
    go_ret
    exact ⟨rfl, hb1⟩
set_option maxHeartbeats 4000000 in
theorem idx14Hw (A : Option Addr) (xs : List Th14) (n c : Nat) (gu : Nat) (w : World) (hl : xs.length = n) (hr : Lq clH w w.heap.size A xs) (hn : n ≤ 1000000) (p : Th14 → Bool)
    (hcl : ∀ W, Below w.heap.size w W → ∀ (xz : Int) (xf : Int) (xc : Int) (xq : Int) (xu : Int), Calls Tryz.prog 114 #[.agg #[.int .i64 xz, .int .i64 xf, .int .i64 xc, .int .i64 xq, .int .i64 xu], .pointer (some ⟨gu, 0, none⟩)] W fun e w' => e = .returned (.bool (p ⟨xz, xf, xc, xq, xu⟩)) ∧ Below W.heap.size W w')
    (b : Bool) (hb : b = true ↔ ∃ j, j < n ∧ p (gt14 xs j) = true) :
    Calls Tryz.prog 125 #[.slice A n c, .func (.func 114) #[] #[.pointer (some ⟨gu, 0, none⟩)]] w fun e w' => ∃ r : Int, e = .returned (.int .i64 r) ∧ (b = true → 0 ≤ r) ∧ (b = false → r = -1) ∧ Below w.heap.size w w' := by
  have HL := Lib.hid hl
  have HR := Lib.hid hr
  have HC := Lib.hid hcl
  have HB := Lib.hid hb
  clear hl hr hcl hb
  go_enter Tryz.func125, Tryz.ntmps125
  go_wp2_with fail
  go_loopw [8] (fun i wr => ∃ k : Nat, i = .int .i64 (k : Int) ∧ k ≤ n ∧ Hid (∀ j, j < k → p (gt14 xs j) = false) ∧ Hid (Below w.heap.size w wr)) (fun i _ => n - (intOf i).toNat)
  case atStart => exact ⟨0, rfl, by omega, Lib.hid (fun j h => by omega), Lib.hid (Below.refl _ _)⟩
  case round =>
    obtain ⟨k, rfl, hk, HN, HG⟩ := hrel
    by_cases hkn : k < n
    · obtain ⟨g, o, hA, hab, hq⟩ := Lq.at_ len14H (by omega) (Lq.below HR.out HG.out (Nat.le_refl _)) (show k < xs.length by have := HL.out; omega)
      subst hA
      obtain ⟨x, hx⟩ : ∃ x, gt14 xs k = x := ⟨_, rfl⟩
      rw [hx] at hq
      obtain ⟨bp, hbp⟩ : ∃ y, p x = y := ⟨_, rfl⟩
      have HX : Hid (p (gt14 xs k) = bp) := Lib.hid (by rw [hx]; exact hbp)
      obtain ⟨xz, xf, xc, xq, xu⟩ := x
      have q0 : wr.cell? ⟨g, o + k * 5, none⟩ = some (.int .i64 xz) := hq 0 _ rfl
      have q1 : wr.cell? ⟨g, o + k * 5 + 1, none⟩ = some (.int .i64 xf) := hq 1 _ rfl
      have q2 : wr.cell? ⟨g, o + k * 5 + 2, none⟩ = some (.int .i64 xc) := hq 2 _ rfl
      have q3 : wr.cell? ⟨g, o + k * 5 + 3, none⟩ = some (.int .i64 xq) := hq 3 _ rfl
      have q4 : wr.cell? ⟨g, o + k * 5 + 4, none⟩ = some (.int .i64 xu) := hq 4 _ rfl
      have i0 : (0 : Int) ≤ (k : Int) := by omega
      have i1 : (k : Int) < (n : Int) := by omega
      have hc := HC.out _ HG.out xz xf xc xq xu
      rw [hbp] at hc
      have HCK := Lib.hid hc
      clear hq hx hbp hc
      cases bp with
      | true =>
        have HBT : Hid (b = true) := Lib.hid (HB.out.2 ⟨k, hkn, HX.out⟩)
        go_wp2_with fail
        refine HCK.out.mono ?_
        rintro e w1 ⟨rfl, hb1⟩
        have HG1 := Lib.hid (HG.out.trans (hb1.mono HG.out.size))
        clear HCK hb1
        go_wp2_with fail
        go_ret
        exact ⟨(k : Int), rfl, fun _ => by omega, fun h => (by rw [HBT.out] at h; cases h), HG1.out⟩
      | false =>
        go_wp2_with fail
        refine HCK.out.mono ?_
        rintro e w1 ⟨rfl, hb1⟩
        have HG1 := Lib.hid (HG.out.trans (hb1.mono HG.out.size))
        clear HCK hb1
        go_wp2_with fail
        go_roundw
        case rel => exact ⟨k + 1, by go_num, by omega, Lib.hid (fun j hj => by
          rcases (show j < k ∨ j = k by omega) with h5 | h5
          · exact HN.out j h5
          · rw [h5]; exact HX.out), HG1⟩
        case measure => simp [intOf]; omega
    · have HBF : Hid (b = false) := Lib.hid (by
        cases hbb : b with
        | false => rfl
        | true =>
          obtain ⟨j, h1, h2⟩ := HB.out.1 hbb
          rw [HN.out j (by omega)] at h2
          cases h2)
      go_wp2_with fail
      go_ret
      exact ⟨-1, rfl, fun h => (by rw [HBF.out] at h; cases h), fun _ => rfl, HG.out⟩
set_option maxHeartbeats 2000000 in
theorem cont14Hw (A : Option Addr) (xs : List Th14) (n c : Nat) (gu : Nat) (w : World) (hl : xs.length = n) (hr : Lq clH w w.heap.size A xs) (hn : n ≤ 1000000) (p : Th14 → Bool)
    (hcl : ∀ W, Below w.heap.size w W → ∀ (xz : Int) (xf : Int) (xc : Int) (xq : Int) (xu : Int), Calls Tryz.prog 114 #[.agg #[.int .i64 xz, .int .i64 xf, .int .i64 xc, .int .i64 xq, .int .i64 xu], .pointer (some ⟨gu, 0, none⟩)] W fun e w' => e = .returned (.bool (p ⟨xz, xf, xc, xq, xu⟩)) ∧ Below W.heap.size W w')
    (b : Bool) (hb : b = true ↔ ∃ j, j < n ∧ p (gt14 xs j) = true) :
    Calls Tryz.prog 110 #[.slice A n c, .func (.func 114) #[] #[.pointer (some ⟨gu, 0, none⟩)]] w fun e w' => e = .returned (.bool b) ∧ Below w.heap.size w w' := by
  have HI := Lib.hid (idx14Hw A xs n c gu w hl hr hn p hcl b hb)
  clear hl hr hcl hb
  go_enter Tryz.func110, Tryz.ntmps110
  go_wp2_with fail
  refine HI.out.mono ?_
  rintro e w1 ⟨r, rfl, h1, h2, hb1⟩
  clear HI
  cases b with
  | true =>
    have hr0 := h1 rfl
    clear h1 h2
    go_wp2_with fail
    go_ret
    exact ⟨rfl, hb1⟩
  | false =>
    obtain rfl := h2 rfl
    clear h1 h2
    go_wp2_with fail
    go_ret
    exact ⟨rfl, hb1⟩
set_option maxHeartbeats 4000000 in
theorem equal14H (A B : Option Addr) (xs ys : List Th14) (n c m d : Nat) (w : World) (hl : xs.length = n) (hr : Lq clH w w.heap.size A xs) (hn : n ≤ 1000000) (hm : ys.length = m) (hs : Lq clH w w.heap.size B ys) (hmn : m ≤ 1000000)
    (b : Bool) (hb : b = true ↔ xs = ys) :
    Calls Tryz.prog 55 #[.slice A n c, .slice B m d] w fun e w' => e = .returned (.bool b) ∧ Below w.heap.size w w' := by
  have HB := Lib.hid hb
  have HL := Lib.hid hl
  have HM := Lib.hid hm
  have HR := Lib.hid hr
  have HS := Lib.hid hs
  clear hb hl hm hr hs
  by_cases hnm : n = m
  · subst hnm
    go_enter Tryz.func55, Tryz.ntmps55
    go_wp2_with fail
    go_loopw [13] (fun i wr => ∃ k : Nat, i = .int .i64 (k : Int) ∧ k ≤ n ∧ Hid (∀ j, j < k → gt14 xs j = gt14 ys j) ∧ Hid (Below w.heap.size w wr)) (fun i _ => n - (intOf i).toNat)
    case atStart => exact ⟨0, rfl, by omega, Lib.hid (fun j h => by omega), Lib.hid (Below.refl _ _)⟩
    case round =>
      obtain ⟨k, rfl, hk, HE, HG⟩ := hrel
      by_cases hkn : k < n
      · obtain ⟨g, o, hA, hag, hq⟩ := Lq.at_ len14H (by omega) (Lq.below HR.out HG.out (Nat.le_refl _)) (show k < xs.length by have := HL.out; omega)
        subst hA
        obtain ⟨g2, o2, hB, hbg, hq2⟩ := Lq.at_ len14H (by omega) (Lq.below HS.out HG.out (Nat.le_refl _)) (show k < ys.length by have := HM.out; omega)
        subst hB
        obtain ⟨x, hx⟩ : ∃ x, gt14 xs k = x := ⟨_, rfl⟩
        obtain ⟨y, hy⟩ : ∃ y, gt14 ys k = y := ⟨_, rfl⟩
        rw [hx] at hq
        rw [hy] at hq2
        have HX := Lib.hid hx
        have HY := Lib.hid hy
        obtain ⟨xz, xf, xc, xq, xu⟩ := x
        obtain ⟨yz, yf, yc, yq, yu⟩ := y
        have i0 : (0 : Int) ≤ (k : Int) := by omega
        have i1 : (k : Int) < (n : Int) := by omega
        have q0 : wr.cell? ⟨g, o + k * 5, none⟩ = some (.int .i64 xz) := hq 0 _ rfl
        have q1 : wr.cell? ⟨g, o + k * 5 + 1, none⟩ = some (.int .i64 xf) := hq 1 _ rfl
        have q2 : wr.cell? ⟨g, o + k * 5 + 2, none⟩ = some (.int .i64 xc) := hq 2 _ rfl
        have q3 : wr.cell? ⟨g, o + k * 5 + 3, none⟩ = some (.int .i64 xq) := hq 3 _ rfl
        have q4 : wr.cell? ⟨g, o + k * 5 + 4, none⟩ = some (.int .i64 xu) := hq 4 _ rfl
        have p0 : wr.cell? ⟨g2, o2 + k * 5, none⟩ = some (.int .i64 yz) := hq2 0 _ rfl
        have p1 : wr.cell? ⟨g2, o2 + k * 5 + 1, none⟩ = some (.int .i64 yf) := hq2 1 _ rfl
        have p2 : wr.cell? ⟨g2, o2 + k * 5 + 2, none⟩ = some (.int .i64 yc) := hq2 2 _ rfl
        have p3 : wr.cell? ⟨g2, o2 + k * 5 + 3, none⟩ = some (.int .i64 yq) := hq2 3 _ rfl
        have p4 : wr.cell? ⟨g2, o2 + k * 5 + 4, none⟩ = some (.int .i64 yu) := hq2 4 _ rfl
        have hneq := neq14H xz xf xc xq xu yz yf yc yq yu
        have hgd := guard14H
        clear hq hq2 hx hy
        by_cases he : (⟨xz, xf, xc, xq, xu⟩ : Th14) = ⟨yz, yf, yc, yq, yu⟩
        · have HE2 : Hid (∀ j, j < k + 1 → gt14 xs j = gt14 ys j) := Lib.hid (fun j hj => by
            rcases (show j < k ∨ j = k by omega) with h | rfl
            · exact HE.out j h
            · rw [HX.out, HY.out, he])
          rw [decide_eq_true he] at hneq
          clear he
          go_wp2_with fail
          go_region
          go_wp2_with fail
          go_roundw
          case rel => exact ⟨k + 1, by go_num, by omega, HE2, Lib.hid (by have := HG.out; exact this.drew)⟩
          case measure => simp [intOf]; omega
        · have HF : Hid (b = false) := Lib.hid (by
            cases hbb : b with
            | false => rfl
            | true =>
              have h := HB.out.1 hbb
              rw [h, HY.out] at HX
              exact absurd HX.out.symm he)
          rw [decide_eq_false he] at hneq
          clear he
          go_wp2_with fail
          go_region
          go_wp2_with fail
          go_ret
          exact ⟨by rw [HF.out]; rfl, by have := HG.out; exact this.drew⟩
      · have HT : Hid (b = true) := Lib.hid (HB.out.2 (ext14 (by rw [HL.out, HM.out]) (fun j hj => HE.out j (by have := HL.out; omega))))
        go_wp2_with fail
        go_ret
        exact ⟨by rw [HT.out]; rfl, HG.out⟩
  · have HF : Hid (b = false) := Lib.hid (by
      cases hbb : b with
      | false => rfl
      | true =>
        have h := HB.out.1 hbb
        exact absurd (by rw [← HL.out, ← HM.out, h]) hnm)
    have hnm2 : ¬ (n : Int) = (m : Int) := by omega
    clear hnm
    go_enter Tryz.func55, Tryz.ntmps55
    go_wp2_with fail
    go_ret
    exact ⟨by rw [HF.out]; rfl, Below.refl _ _⟩
end Go.Proofs.YtfoellhoaflofaaGreat
namespace Go.Proofs.YtfoellhoaflofaaGreat
open Go.RowKit
set_option maxRecDepth 100000
set_option maxHeartbeats 4000000 in
theorem tidy14H (A : Option Addr) (xs : List Th14) (n c most : Nat) (w : World) (hl : xs.length = n) (hr : Lq clH w w.heap.size A xs) (hn : n ≤ 1000000) (b : Bool) (hb : b = true ↔ Tidy14 usH xs most) :
    Calls Tryz.prog 87 #[.slice A n c, .int .i64 (most : Int), .func (.func 68) #[] #[]] w fun e w' => e = .returned (.bool b) ∧ Below w.heap.size w w' := by
  have hb1 := b1' w (.cells #[.func (.func 68) #[] #[]] 81)
  have hk1 := Blk.new w 81 #[.func (.func 68) #[] #[]]
  have hr1 := hr.step hb1
  obtain ⟨w1, hw1⟩ : ∃ W, w.alloc (.cells #[.func (.func 68) #[] #[]] 81) = W := ⟨_, rfl⟩
  rw [hw1] at hb1 hk1 hr1
  have u1 := hk1.cell 0
  have HE := Lib.hid (end14H A xs n c w1 hl hr1 hn)
  have HK1 := Lib.hid hk1
  have HR1 := Lib.hid hr1
  have HB1 := Lib.hid hb1
  have HL := Lib.hid hl
  have HB := Lib.hid hb
  have HW1 := Lib.hid hw1
  have hmf : ∀ (fn : Fn) (first cap : Array Value) (w : World), (Instr.makeFunc fn first cap).run Tryz.prog w = .ok (.func fn first cap) w := fun _ _ _ _ => rfl
  clear hb1 hk1 hr1 hr hl hb
  by_cases hm : n ≤ most
  · obtain ⟨m, hme⟩ : ∃ m, en14 usH xs n = m := ⟨_, rfl⟩
    have hmn : m ≤ n := by rw [← hme]; exact en14_le _ _ _
    rw [hme] at HE
    have HME := Lib.hid hme
    have h1 : ¬ (most : Int) < (n : Int) := by omega
    clear hme
    by_cases hlt : m < n
    · have HF : Hid (b = false) := Lib.hid (by
        cases hbb : b with
        | false => rfl
        | true =>
          have h := (HB.out.1 hbb).2.1
          rw [HL.out, HME.out] at h
          omega)
      have h2 : (m : Int) < (n : Int) := by omega
      go_enter Tryz.func87, Tryz.ntmps87
      go_wp2_with fail
      refine HE.out.mono ?_
      rintro e w2 ⟨rfl, hb2⟩
      have HB2 := Lib.hid (HB1.out.trans (hb2.mono HB1.out.size))
      clear HE hb2
      go_wp2_with fail
      go_ret
      exact ⟨by rw [HF.out]; rfl, HB2.out⟩
    · obtain rfl : m = n := by omega
      have h2 : ¬ (m : Int) < (m : Int) := by omega
      go_enter Tryz.func87, Tryz.ntmps87
      go_wp2_with fail
      refine HE.out.mono ?_
      rintro e w2 ⟨rfl, hb2⟩
      have HB2 := Lib.hid (HB1.out.trans (hb2.mono HB1.out.size))
      have hb3 := b1' w2 (.cells #[.int .i64 0, .int .i64 0, .int .i64 0, .int .i64 0, .int .i64 0] 45)
      have hk3 := Blk.new w2 45 #[.int .i64 0, .int .i64 0, .int .i64 0, .int .i64 0, .int .i64 0]
      obtain ⟨w3, hw3⟩ : ∃ W, w2.alloc (.cells #[.int .i64 0, .int .i64 0, .int .i64 0, .int .i64 0, .int .i64 0] 45) = W := ⟨_, rfl⟩
      rw [hw3] at hb3 hk3
      have hb13 := hb2.trans (hb3.mono hb2.size)
      have hr3 := HR1.out.step hb13
      have hu3 := (HK1.out.below hb13 HK1.out.lt).cell 0
      have HB3 := Lib.hid (HB1.out.trans (hb13.mono HB1.out.size))
      have HC := Lib.hid (cont14Ht A xs m c w.heap.size w2.heap.size w3 HL.out hr3 hn (fun x => !usH x && !decide (x = default))
        (fun W hW xz xf xc xq xu => tid14H xz xf xc xq xu w.heap.size w2.heap.size W ((hW.cell (p := ⟨w.heap.size, 0, none⟩) (World.block_lt_of_cell? w3 _ hu3)).trans hu3) ((hW.cell (p := ⟨w2.heap.size, 0, none⟩) hk3.lt).trans (hk3.cell 0)) ((hW.cell (p := ⟨w2.heap.size, 1, none⟩) hk3.lt).trans (hk3.cell 1)) ((hW.cell (p := ⟨w2.heap.size, 2, none⟩) hk3.lt).trans (hk3.cell 2)) ((hW.cell (p := ⟨w2.heap.size, 3, none⟩) hk3.lt).trans (hk3.cell 3)) ((hW.cell (p := ⟨w2.heap.size, 4, none⟩) hk3.lt).trans (hk3.cell 4)) _ rfl)
        (!b) (by
          rw [Bool.not_eq_true', ← Bool.not_eq_true, HB.out]
          unfold Tidy14
          rw [HL.out, HME.out]
          constructor
          · intro h
            refine Classical.byContradiction (fun h5 => h ⟨hm, rfl, fun j hj hu => Classical.byContradiction (fun h6 => h5 ⟨j, hj, ?_⟩)⟩)
            show (!usH (gt14 xs j) && !decide (gt14 xs j = default)) = true
            rw [hu, decide_eq_false h6]
            rfl
          · rintro ⟨j, hj, hp⟩ ⟨_, _, h⟩
            simp only [Bool.and_eq_true, Bool.not_eq_true', decide_eq_false_iff_not] at hp
            exact hp.2 (h j hj hp.1)))
      obtain ⟨bn, hbn⟩ : ∃ y, (!b) = y := ⟨_, rfl⟩
      rw [hbn] at HC
      have HBN : Hid (b = !bn) := Lib.hid (by rw [← hbn]; simp)
      clear HE hb2 hb3 hb13 hr3 hu3 hk3 hbn
      go_wp2_with fail
      refine HC.out.mono ?_
      rintro e w4 ⟨rfl, hb4⟩
      have HB4 := Lib.hid (HB3.out.trans (hb4.mono HB3.out.size))
      clear HC hb4
      go_wp2_with fail
      go_ret
      exact ⟨by rw [HBN.out]; rfl, HB4.out⟩
  · have HF : Hid (b = false) := Lib.hid (by
      cases hbb : b with
      | false => rfl
      | true =>
        have h := (HB.out.1 hbb).1
        rw [HL.out] at h
        exact absurd h hm)
    have h1 : (most : Int) < (n : Int) := by omega
    clear HE
    go_enter Tryz.func87, Tryz.ntmps87
    go_wp2_with fail
    go_ret
    exact ⟨by rw [HF.out]; rfl, HB1.out⟩
set_option maxHeartbeats 4000000 in
theorem free14H (A : Option Addr) (xs : List Th14) (n c most : Nat) (r : Int) (w : World) (hl : xs.length = n) (hr : Lq clH w w.heap.size A xs) (hn : n ≤ 1000000) (hm : most ≤ 1000) (hf : Free14 usH xs most r) :
    Calls Tryz.prog 83 #[.slice A n c, .int .i64 (most : Int), .func (.func 68) #[] #[]] w fun e w' => e = .returned (.int .i64 r) ∧ Below w.heap.size w w' := by
  have HL := Lib.hid hl
  have HR := Lib.hid hr
  have HF := Lib.hid hf
  clear hl hr hf
  go_enter Tryz.func83, Tryz.ntmps83
  go_wp2_with fail
  go_loopw [11] (fun i wr => ∃ k : Nat, i = .int .i64 (k : Int) ∧ k ≤ most ∧ Hid (∀ j, j < k → usH (gt14 xs j) = true) ∧ Hid (Below w.heap.size w wr)) (fun i _ => most - (intOf i).toNat)
  case atStart => exact ⟨0, rfl, by omega, Lib.hid (fun j h => by omega), Lib.hid (Below.refl _ _)⟩
  case round =>
    obtain ⟨k, rfl, hk, HN, HG⟩ := hrel
    by_cases hkn : k < most
    · have i0 : (0 : Int) ≤ (k : Int) := by omega
      have i1 : (k : Int) < (most : Int) := by omega
      cases hu : usH (gt14 xs k) with
      | true =>
        have hkl : k < n := by
          refine Classical.byContradiction (fun h => ?_)
          rw [gt14_out (by have := HL.out; omega), def14H] at hu
          cases hu
        obtain ⟨x, hx⟩ : ∃ x, gt14 xs k = x := ⟨_, rfl⟩
        have hu' := hu
        rw [hx] at hu'
        obtain ⟨xz, xf, xc, xq, xu⟩ := x
        have HA := Lib.hid (at14H_yes A xs n c k xz xf xc xq xu wr HL.out (HR.out.step HG.out) hn hkl hx hu')
        have HN2 : Hid (∀ j, j < k + 1 → usH (gt14 xs j) = true) := Lib.hid (fun j hj => by
          rcases (show j < k ∨ j = k by omega) with h5 | h5
          · exact HN.out j h5
          · rw [h5]; exact hu)
        clear hu hx hu'
        go_wp2_with fail
        refine HA.out.mono ?_
        rintro e w1 ⟨rfl, hb1⟩
        have HG1 := Lib.hid (HG.out.trans (hb1.mono HG.out.size))
        clear HA hb1
        go_wp2_with fail
        go_roundw
        case rel => exact ⟨k + 1, by go_num, by omega, HN2, Lib.hid (HG1.out.alloc HG1.out.size _)⟩
        case measure => simp [intOf]; omega
      | false =>
        have HRE : Hid (r = (k : Int)) := Lib.hid (HF.out.least hkn hu HN.out)
        have HA := Lib.hid (at14H_no A xs n c (k : Int) wr HL.out (HR.out.step HG.out) hn (by rw [us14_nat]; exact hu))
        clear hu
        go_wp2_with fail
        refine HA.out.mono ?_
        rintro e w1 ⟨rfl, hb1⟩
        have HG1 := Lib.hid (HG.out.trans (hb1.mono HG.out.size))
        clear HA hb1
        go_wp2_with fail
        go_ret
        exact ⟨by rw [HRE.out]; rfl, HG1.out.alloc HG1.out.size _⟩
    · have HRE : Hid (r = -1) := Lib.hid (HF.out.none (fun j hj => HN.out j (by omega)))
      go_wp2_with fail
      go_ret
      exact ⟨by rw [HRE.out]; rfl, HG.out⟩
theorem make14H (n : Nat) (hn : n ≤ 1000000) (W : World) : (Instr.makeSlice 24 (.int .i64 (n : Int)) (.int .i64 (n : Int))).run Tryz.prog W =
    .ok (.slice (some ⟨W.heap.size, 0, none⟩) n n) (W.alloc (.cells (madeCells #[.int .i64 0, .int .i64 0, .int .i64 0, .int .i64 0, .int .i64 0] (n * 5)) 45)) := by
  obtain ⟨i, hi, hzz⟩ := Option.map_eq_some_iff.1 info14H
  simp only [Prod.mk.injEq] at hzz
  obtain ⟨hz, hs, hb⟩ := hzz
  have hr := run_make (P := Tryz.prog) W 24 45 i _ Tryz.underlying24 hi hz .i64 .i64 n n (by omega) (Int.le_refl _) (by rw [hb]; omega) (by omega)
  simp only [Int.toNat_natCast, hs, Value.cells] at hr
  exact hr
theorem zc14H : ∀ i, i < 5 → (#[.int .i64 0, .int .i64 0, .int .i64 0, .int .i64 0, .int .i64 0] : Array Value)[i]? = (clH default)[i]? := by
  intro i hi
  match i, hi with
  | 0, _ => rfl
  | 1, _ => rfl
  | 2, _ => rfl
  | 3, _ => rfl
  | 4, _ => rfl
set_option maxHeartbeats 4000000 in
theorem put14H (A : Option Addr) (xs : List Th14) (n c i : Nat) (xz : Int) (xf : Int) (xc : Int) (xq : Int) (xu : Int) (w : World) (hl : xs.length = n) (hr : Lq clH w w.heap.size A xs) (hn : n ≤ 100000) (hi : i ≤ 100000) :
    Calls Tryz.prog 75 #[.slice A n c, .int .i64 (i : Int), .agg #[.int .i64 xz, .int .i64 xf, .int .i64 xc, .int .i64 xq, .int .i64 xu]] w (RetS14H w (put14 xs i ⟨xz, xf, xc, xq, xu⟩)) := by
  obtain ⟨M, hM⟩ : ∃ M, max n (i + 1) = M := ⟨_, rfl⟩
  obtain ⟨p, hp⟩ : ∃ p, i + 1 = p := ⟨_, rfl⟩
  have hlp : (put14 xs i ⟨xz, xf, xc, xq, xu⟩).length = M := by rw [put14_len, hl, hM]
  have HP : Hid (RetS14H w (put14 xs i ⟨xz, xf, xc, xq, xu⟩) = fun e w' => ∃ A c, e = .returned (.slice A M c) ∧ M ≤ c ∧ Lq clH w' w'.heap.size A (put14 xs i ⟨xz, xf, xc, xq, xu⟩) ∧ Fv w.heap.size A (fl14 clH (put14 xs i ⟨xz, xf, xc, xq, xu⟩)) ∧ Below w.heap.size w w') := Lib.hid (by rw [← hlp]; rfl)
  have hb1 := b1' w (.cells #[.int .i64 xz, .int .i64 xf, .int .i64 xc, .int .i64 xq, .int .i64 xu] 45)
  have hk1 := Blk.new w 45 #[.int .i64 xz, .int .i64 xf, .int .i64 xc, .int .i64 xq, .int .i64 xu]
  obtain ⟨w1, hw1⟩ : ∃ W, w.alloc (.cells #[.int .i64 xz, .int .i64 xf, .int .i64 xc, .int .i64 xq, .int .i64 xu] 45) = W := ⟨_, rfl⟩
  rw [hw1] at hb1 hk1
  have hmk := make14H M (by omega) w1
  obtain ⟨w3, cs, hcp, hbk, hrow, hb3, hs3⟩ := copied14 (P := Tryz.prog) len14H clH_one (by omega) w1 24 45 _ 40 Tryz.underlying24 info14H #[.int .i64 0, .int .i64 0, .int .i64 0, .int .i64 0, .int .i64 0] rfl zc14H M A xs n c hl (by omega) (hr.step hb1)
  obtain ⟨cs', hbk', hrow'⟩ := Row14.put (x := (⟨xz, xf, xc, xq, xu⟩ : Th14)) (p := i) len14H hrow (by rw [hl, hp]; rw [hp] at hM; exact hM.symm) hbk
  have hlq := Row14.lq len14H (by omega) hrow' hlp hbk'
  have hbw : Below w.heap.size w w3 := hb1.trans (hb3.mono hb1.size)
  have hbf := setCells_below14 (B := w.heap.size) (g := w1.heap.size) hb1.size (clH ⟨xz, xf, xc, xq, xu⟩) (i * 5) w3 hbw
  have x0 := (hb3.cell (p := ⟨w.heap.size, 0, none⟩) hk1.lt).trans (hk1.cell 0)
  have x1 := (hb3.cell (p := ⟨w.heap.size, 1, none⟩) hk1.lt).trans (hk1.cell 1)
  have x2 := (hb3.cell (p := ⟨w.heap.size, 2, none⟩) hk1.lt).trans (hk1.cell 2)
  have x3 := (hb3.cell (p := ⟨w.heap.size, 3, none⟩) hk1.lt).trans (hk1.cell 3)
  have x4 := (hb3.cell (p := ⟨w.heap.size, 4, none⟩) hk1.lt).trans (hk1.cell 4)
  have hcl : ∀ j, j < 5 → ∃ z, w3.cell? ⟨w1.heap.size, i * 5 + j, none⟩ = some z := fun j hj => by
    rw [hbk.cell]
    have := Nat.mul_le_mul_right 5 (show i + 1 ≤ M by omega)
    exact ⟨_, Array.getElem?_eq_getElem (by rw [hrow.1]; omega)⟩
  obtain ⟨z0, e0⟩ := hcl 0 (by omega)
  have f0 := hbk.frozen (i * 5 + 0)
  obtain ⟨z1, e1⟩ := hcl 1 (by omega)
  have f1 := hbk.frozen (i * 5 + 1)
  obtain ⟨z2, e2⟩ := hcl 2 (by omega)
  have f2 := hbk.frozen (i * 5 + 2)
  obtain ⟨z3, e3⟩ := hcl 3 (by omega)
  have f3 := hbk.frozen (i * 5 + 3)
  obtain ⟨z4, e4⟩ := hcl 4 (by omega)
  have f4 := hbk.frozen (i * 5 + 4)
  have e0' : w3.cell? ⟨w1.heap.size, i * 5, none⟩ = some z0 := e0
  have f0' : w3.frozen? ⟨w1.heap.size, i * 5, none⟩ = false := f0
  have hw : IntKind.i64.wrap ((i : Int) + 1) = (p : Int) := by rw [IntKind.wrap_i64]; omega
  have HQ := Lib.hid hlq
  have HBF := Lib.hid hbf
  have HFV : Hid (Fv w.heap.size (some ⟨w1.heap.size, 0, none⟩) (fl14 clH (put14 xs i ⟨xz, xf, xc, xq, xu⟩))) := Lib.hid (fun _ => ⟨w1.heap.size, 0, rfl, hb1.size⟩)
  have i0 : (0 : Int) ≤ (i : Int) := by omega
  have i1 : (i : Int) < (M : Int) := by omega
  clear hlq hbf hbk hrow hb3 hbk' hrow' hcl hb1 hbw hr hl hlp hs3 e0 f0 hk1
  have hmx : max (n : Int) (p : Int) = (M : Int) := by omega
  clear hM hp
  go_enter Tryz.func75, Tryz.ntmps75
  go_wp2_with fail
  go_ret
  rw [HP.out]
  exact ⟨_, M, rfl, Nat.le_refl _, HQ.out, HFV.out, HBF.out⟩
end Go.Proofs.YtfoellhoaflofaaGreat
namespace Go.Proofs.YtfoellhoaflofaaGreat
open Go.RowKit
set_option maxRecDepth 100000
theorem info14L : (Tryz.prog.info? 47).map (fun i => (i.zero, i.size, i.bytes)) = some (some (.agg #[.bool false, .int .i64 0]), 2, 16) := by kernel_rfl
theorem len14L (x : Lk14) : (clL x).length = 2 := rfl
theorem nil14L : ∀ (n c : Nat) (w : World), (binOp .eql 25 (.slice none n c) (.slice none 0 0)).run Tryz.prog w = .ok (.bool true) w := fun _ _ _ => by kernel_rfl
theorem not14L : ∀ (a : Addr) (n c : Nat) (w : World), (binOp .eql 25 (.slice (some a) n c) (.slice none 0 0)).run Tryz.prog w = .ok (.bool false) w := fun _ _ _ _ => by kernel_rfl
set_option maxHeartbeats 1000000 in
theorem used14L (xu : Bool) (xh : Int) (b : Bool) (hb : usL ⟨xu, xh⟩ = b) (w : World) :
    Calls Tryz.prog 70 #[.agg #[.bool xu, .int .i64 xh]] w fun e w' => e = .returned (.bool b) ∧ Below w.heap.size w w' := by
  have hk := Blk.new w 47 #[.bool xu, .int .i64 xh]
  have c0 := hk.cell 0
  have hb1 := b1' w (.cells #[.bool xu, .int .i64 xh] 47)
  clear hk
  subst hb
  go_enter Tryz.func70, Tryz.ntmps70
  go_wp2_with fail
  go_ret
  exact ⟨rfl, hb1⟩
set_option maxHeartbeats 2000000 in
theorem end14L (A : Option Addr) (xs : List Lk14) (n c : Nat) (w : World) (hl : xs.length = n) (hr : Lq clL w w.heap.size A xs) (hn : n ≤ 1000000) :
    Calls Tryz.prog 105 #[.slice A n c, .func (.func 70) #[] #[]] w fun e w' => e = .returned (.int .i64 ((en14 usL xs n : Nat) : Int)) ∧ Below w.heap.size w w' := by
  have HL := Lib.hid hl
  have HR := Lib.hid hr
  clear hl hr
  go_enter Tryz.func105, Tryz.ntmps105
  go_wp2_with fail
  go_loopw [5] (fun i wr => ∃ m : Nat, i = .int .i64 (m : Int) ∧ m ≤ n ∧ Hid (en14 usL xs n = en14 usL xs m) ∧ Hid (Below w.heap.size w wr)) (fun i _ => (intOf i).toNat)
  case atStart => exact ⟨n, rfl, Nat.le_refl _, Lib.hid rfl, Lib.hid (Below.refl _ _)⟩
  case round =>
    obtain ⟨m, rfl, hm, HE, HB⟩ := hrel
    by_cases h0 : m = 0
    · subst h0
      go_wp2_with fail
      go_ret
      exact ⟨by rw [HE.out]; rfl, HB.out⟩
    · obtain ⟨q, hqm⟩ : ∃ q, q + 1 = m := ⟨m - 1, by omega⟩
      obtain ⟨b, o, hA, hab, hq⟩ := Lq.at_ len14L (by omega) (Lq.below HR.out HB.out (Nat.le_refl _)) (show q < xs.length by have := HL.out; omega)
      subst hA
      obtain ⟨x, hx⟩ : ∃ x, gt14 xs q = x := ⟨_, rfl⟩
      rw [hx] at hq
      obtain ⟨bu, hbu⟩ : ∃ y, usL x = y := ⟨_, rfl⟩
      have HX : Hid (usL (gt14 xs q) = bu) := Lib.hid (by rw [hx]; exact hbu)
      obtain ⟨xu, xh⟩ := x
      have q0 : wr.cell? ⟨b, o + q * 2, none⟩ = some (.bool xu) := hq 0 _ rfl
      have q1 : wr.cell? ⟨b, o + q * 2 + 1, none⟩ = some (.int .i64 xh) := hq 1 _ rfl
      have hw : IntKind.i64.wrap ((m : Int) - 1) = (q : Int) := by rw [IntKind.wrap_i64]; omega
      have h1 : (0 : Int) < (m : Int) := by omega
      have i0 : (0 : Int) ≤ (q : Int) := by omega
      have i1 : (q : Int) < (n : Int) := by omega
      have HU := Lib.hid (fun W => used14L xu xh bu hbu W)
      have HM := Lib.hid hqm
      clear hq hx hbu hqm
      cases bu with
      | true =>
        have HE2 : Hid (en14 usL xs n = m) := Lib.hid (by have := HM.out; rw [HE.out, ← this, en14_yes HX.out])
        go_wp2_with fail
        refine (HU.out _).mono ?_
        rintro e w1 ⟨rfl, hb1⟩
        have HB1 := Lib.hid (HB.out.trans (hb1.mono HB.out.size))
        clear HU hb1
        go_wp2_with fail
        go_ret
        exact ⟨by rw [HE2.out]; rfl, HB1.out⟩
      | false =>
        have HE2 : Hid (en14 usL xs n = en14 usL xs q) := Lib.hid (by have := HM.out; rw [HE.out, ← this, en14_no HX.out])
        go_wp2_with fail
        refine (HU.out _).mono ?_
        rintro e w1 ⟨rfl, hb1⟩
        have HB1 := Lib.hid (HB.out.trans (hb1.mono HB.out.size))
        clear HU hb1
        go_wp2_with fail
        go_roundw
        case rel => exact ⟨q, rfl, by omega, HE2, HB1⟩
        case measure => have := HM.out; simp [intOf]; omega
/-- A slice that is answered, of memory of the call's own or nil. -/
def RetS14L (w : World) (xs : List Lk14) (e : Ending) (w' : World) : Prop := ∃ A c, e = .returned (.slice A xs.length c) ∧ xs.length ≤ c ∧ Lq clL w' w'.heap.size A xs ∧ Fv w.heap.size A (fl14 clL xs) ∧ Below w.heap.size w w'
set_option maxHeartbeats 2000000 in
theorem clone14L (A : Option Addr) (xs : List Lk14) (n c : Nat) (w : World) (hl : xs.length = n) (hr : Lq clL w w.heap.size A xs) (hn : n ≤ 1000000) :
    Calls Tryz.prog 61 #[.slice A n c] w (RetS14L w xs) := by
  have HP : Hid (RetS14L w xs = fun e w' => ∃ A c, e = .returned (.slice A xs.length c) ∧ xs.length ≤ c ∧ Lq clL w' w'.heap.size A xs ∧ Fv w.heap.size A (fl14 clL xs) ∧ Below w.heap.size w w') := Lib.hid rfl
  have hni := nil14L
  have hnn := not14L
  cases A with
  | none =>
    have hx := Lq.none_nil len14L (by omega) hr
    subst hx
    obtain rfl : n = 0 := by simpa using hl.symm
    clear hr hl
    go_enter Tryz.func61, Tryz.ntmps61
    go_wp2_with fail
    go_ret
    rw [HP.out]
    exact ⟨none, 0, rfl, Nat.le_refl _, Lq.nil _ _ _ _, fun h => absurd rfl h, Below.refl _ _⟩
  | some ad =>
    have hr1 := hr.below (b1' w (.cells #[] 47)) (Nat.le_refl _)
    obtain ⟨w1, hw1⟩ : ∃ W, w.alloc (.cells #[] 47) = W := ⟨_, rfl⟩
    have hown := owns14_nil w w.heap.size (Nat.le_refl _) 47 2
    have hsz : w1.heap.size = w.heap.size + 1 := by rw [← hw1]; simp
    rw [hw1] at hr1 hown
    obtain ⟨A', c', w2, hrun, hown2, hg2⟩ := run_append_14 (P := Tryz.prog) w1 w.heap.size 25 25 47 _ 2 16 Tryz.underlying25 info14L rfl (by omega) (by omega) _ 0 [] hown w.heap.size (some ad) (fl14 clL xs) n c (by rw [fl14_len len14L, hl]) hr1 (fl14_one clL_one xs) (by omega) (by omega)
    rw [Nat.zero_add] at hrun hown2
    have HB2 : Hid (Below w.heap.size w w2) := Lib.hid ((by rw [← hw1]; exact b1' w _ : Below w.heap.size w w1).grown hg2 (by omega) (fun r hr => by cases hr; exact Nat.le_refl _))
    have HO : Hid (Lq clL w2 w2.heap.size A' xs) := Lib.hid (Lq.of_own (by omega) hown2)
    have HF : Hid (Fv w.heap.size A' (fl14 clL xs)) := Lib.hid (by have h := fv14_own hown2; rwa [List.nil_append] at h)
    have HCAP := Lib.hid (own14_cap hown2)
    have HL := Lib.hid hl
    have HRUN := Lib.hid hrun
    clear hr hr1 hown hown2 hg2 hsz hl hrun
    go_enter Tryz.func61, Tryz.ntmps61
    go_wp2_with (at_builtin; go_loud (refine wpList_append_14 _ rfl (.tmp 5) (.tmp 6) 25 rfl _ _ _ _ rfl rfl HRUN.out ?_))
    go_wp2_with fail
    go_ret
    rw [HP.out]
    exact ⟨A', c', by rw [HL.out]; rfl, by rw [HL.out]; exact HCAP.out, HO.out, HF.out, HB2.out⟩
set_option maxHeartbeats 2000000 in
theorem cut14L (A : Option Addr) (xs : List Lk14) (n c : Nat) (w : World) (hl : xs.length = n) (hc : n ≤ c) (hr : Lq clL w w.heap.size A xs) (hn : n ≤ 1000000) :
    Calls Tryz.prog 69 #[.slice A n c, .func (.func 70) #[] #[]] w (RetS14L w (cut14 usL xs)) := by
  have HE := Lib.hid (end14L A xs n c w hl hr hn)
  obtain ⟨m, hm⟩ : ∃ m, en14 usL xs n = m := ⟨_, rfl⟩
  have hmn : m ≤ n := by rw [← hm]; exact en14_le _ _ _
  have hcm : cut14 usL xs = xs.take m := by rw [cut14, hl, hm]
  have hlm : (xs.take m).length = m := by rw [List.length_take]; omega
  have hrm := hr.take len14L m
  rw [hm] at HE
  obtain ⟨ys, hys⟩ : ∃ ys, xs.take m = ys := ⟨_, rfl⟩
  rw [hys] at hcm hlm hrm
  have HC := Lib.hid (fun W (h : Below w.heap.size w W) => clone14L A ys m c W hlm (hrm.step h) (by omega))
  rw [hcm]
  have HP : Hid (RetS14L w ys = fun e w' => ∃ A c, e = .returned (.slice A m c) ∧ m ≤ c ∧ Lq clL w' w'.heap.size A ys ∧ Fv w.heap.size A (fl14 clL ys) ∧ Below w.heap.size w w') := Lib.hid (by rw [← hlm]; rfl)
  have h1 : (m : Int) ≤ (c : Int) := by omega
  have h2 : (0 : Int) ≤ (m : Int) := by omega
  have HLM := Lib.hid hlm
  clear hl hr hm hcm hlm hrm hys
  go_enter Tryz.func69, Tryz.ntmps69
  go_wp2_with fail
  refine HE.out.mono ?_
  rintro e w1 ⟨rfl, hb1⟩
  have HC1 := Lib.hid (HC.out w1 hb1)
  have HB1 := Lib.hid hb1
  clear HE HC hb1
  go_wp2_with fail
  refine HC1.out.mono ?_
  rintro e w2 ⟨A2, c2, rfl, hc2, hq2, hf2, hb2⟩
  rw [HLM.out] at hc2 ⊢
  have HC2 := Lib.hid hc2
  have HF2 := Lib.hid (fv14_more hf2 HB1.out.size)
  have HQ2 := Lib.hid hq2
  have HB2 := Lib.hid (HB1.out.trans (hb2.mono HB1.out.size))
  clear HC1 hq2 hb2 hc2 hf2
  go_wp2_with fail
  go_ret
  rw [HP.out]
  exact ⟨A2, c2, rfl, HC2.out, HQ2.out, HF2.out, HB2.out⟩
end Go.Proofs.YtfoellhoaflofaaGreat
