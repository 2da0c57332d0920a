/-
  Sums, differences, products, quotients, order: the first drawn region.
-/
import Derived.Test.YtlnabebjhpdgpaaDoorMK
namespace Go.Proofs.YtlnabebjhpdgpaaDoor
open Go.RowKit
set_option maxRecDepth 100000

section
variable {A1 A2 A3 A4 A5 A6 B1 B2 B3 B4 B5 B6 P1 P2 Aw Ax : Option Addr} {n1 c1 n2 c2 n3 c3 n4 c4 n5 c5 n6 c6 i1 e1 i2 e2 i3 e3 i4 e4 i5 e5 i6 e6 o0 o1 o2 g6 g7 g8 g1 g2 gw gx p1 r1 p2 r2 nw cw nx cx J1 J2 J3 La Lb : Nat} {X1 X2 X3 X4 X5 X6 : List Nat} {cz : Int} {bz : Bool} {wc w0 : World}
variable {t0 t1 t2 t3 t4 t5 t6 t7 t8 t9 t10 t11 t12 t13 t14 t15 t16 t17 t18 t19 t20 t21 t22 t23 t24 t25 t26 t27 t28 t29 t30 t31 t32 t33 t34 t35 t36 t37 t38 t39 t40 t41 t42 t43 t44 t45 t46 t47 t48 t49 t50 t51 t52 t53 t54 t55 t56 t57 t58 t59 t60 t61 t62 t63 t64 t65 t66 t67 t68 t69 t70 t71 t72 t73 t74 t75 t76 t77 t78 t79 t80 t81 t82 t83 t84 t85 t86 t87 t88 t89 t90 t91 t92 t93 t94 t95 t96 t97 t98 t99 t100 t101 t102 t103 t104 t105 t106 t107 t108 t109 t110 t111 t112 t113 t114 t115 t116 t117 t118 t119 t120 t121 t122 t123 t124 t125 t126 t127 t128 t129 t130 t131 t132 t133 t134 t135 t136 t137 t138 t139 t140 t141 t142 t143 t144 t145 t146 t147 t148 t149 t150 t151 t152 t153 t154 t155 t156 t157 t158 t159 t160 t161 t162 t163 t164 t165 t166 t167 t168 t169 t170 t171 t172 t173 t174 t175 t176 t177 t178 t179 t180 t181 t182 t183 t184 t185 t186 t187 t188 t189 t190 t191 t192 t193 t194 t195 t196 t197 t198 t199 t200 t201 t202 t203 t204 t205 t206 : Value}
variable {Q : Exit → Act → World → Prop}

set_option maxHeartbeats 64000000 in
theorem reg3_r (HQ0 : Hid (Blk wc o0 25 #[.slice A1 n1 c1, .slice A2 n2 c2])) (HQ1 : Hid (Blk wc o1 25 #[.slice A3 n3 c3, .slice A4 n4 c4])) (HQ2 : Hid (Blk wc o2 25 #[.slice A5 n5 c5, .slice A6 n6 c6])) (HR1 : Hid (Ra wc wc.heap.size A1 X1)) (HR2 : Hid (Ra wc wc.heap.size A2 X2)) (HR3 : Hid (Ra wc wc.heap.size A3 X3)) (HR4 : Hid (Ra wc wc.heap.size A4 X4)) (HR5 : Hid (Ra wc wc.heap.size A5 X5)) (HR6 : Hid (Ra wc wc.heap.size A6 X6)) (HL1 : Hid (X1.length = n1)) (HL2 : Hid (X2.length = n2)) (HL3 : Hid (X3.length = n3)) (HL4 : Hid (X4.length = n4)) (HL5 : Hid (X5.length = n5)) (HL6 : Hid (X6.length = n6)) (HD1 : Hid (Dg X1)) (HD2 : Hid (Dg X2)) (HD3 : Hid (Dg X3)) (HD4 : Hid (Dg X4)) (HD5 : Hid (Dg X5)) (HD6 : Hid (Dg X6)) (hs0 : n1 ≤ 6 ∧ n2 ≤ 6) (hs1 : n3 ≤ 6 ∧ n4 ≤ 6) (hs2 : n5 ≤ 6 ∧ n6 ≤ 6)
    (hP : ∀ c a d v w, Q (.panic c) (Act.put a (some d) v) w → Q (.panic c) a w)
    (hQ : ∀ (x45 x46 x47 x48 x49 x50 : Value) (g6 g7 g8 : Nat) (wn : World), QBox wn g6 (U X1) (U X2) → QBox wn g7 (U X3) (U X4) → QBox wn g8 (U X5) (U X6) → Below wc.heap.size wc wn → wc.heap.size ≤ g6 → wc.heap.size ≤ g7 → wc.heap.size ≤ g8 → Q .normal { tmps := #[.agg #[.slice A1 n1 c1, .slice A2 n2 c2], .agg #[.slice A3 n3 c3, .slice A4 n4 c4], .agg #[.slice A5 n5 c5, .slice A6 n6 c6], .pointer (some ⟨o0, 0, none⟩), .pointer (some ⟨o1, 0, none⟩), .pointer (some ⟨o2, 0, none⟩), .bool false, .pointer (some ⟨g6, 0, none⟩), .pointer (some ⟨g7, 0, none⟩), .pointer (some ⟨g8, 0, none⟩), t10, t11, t12, t13, t14, t15, t16, t17, t18, t19, t20, t21, t22, t23, t24, t25, t26, t27, t28, t29, t30, t31, t32, t33, t34, t35, t36, t37, t38, t39, t40, t41, t42, t43, t44, x45, x46, x47, x48, x49, x50, t51, t52, t53, t54, t55, t56, t57, t58, t59, t60, t61, t62, t63, t64, t65, t66, t67, t68, t69, t70, t71, t72, t73, t74, t75, t76, t77, t78, t79, t80, t81, t82, t83, t84, t85, t86, t87, t88, t89, t90, t91, t92, t93, t94, t95, t96, t97, t98, t99, t100, t101, t102, t103, t104, t105, t106, t107, t108, t109, t110, t111, t112, t113, t114, t115, t116, t117, t118, t119, t120, t121, t122, t123, t124, t125, t126, t127, t128, t129, t130, t131, t132, t133, t134, t135, t136, t137, t138, t139, t140, t141, t142, t143, t144, t145, t146, t147, t148, t149, t150, t151, t152, t153, t154, t155, t156, t157, t158, t159, t160, t161, t162, t163, t164, t165, t166, t167, t168, t169, t170, t171, t172, t173, t174, t175, t176, t177, t178, t179, t180, t181, t182, t183, t184, t185, t186, t187, t188, t189, t190, t191, t192, t193, t194, t195, t196, t197, t198, t199, t200, t201, t202, t203, t204, t205, t206], defers := [] } wn) :
    (Code.region 3 ops3 true).wp Tryd.prog Q { tmps := #[.agg #[.slice A1 n1 c1, .slice A2 n2 c2], .agg #[.slice A3 n3 c3, .slice A4 n4 c4], .agg #[.slice A5 n5 c5, .slice A6 n6 c6], .pointer (some ⟨o0, 0, none⟩), .pointer (some ⟨o1, 0, none⟩), .pointer (some ⟨o2, 0, none⟩), .bool false, t7, t8, t9, t10, t11, t12, t13, t14, t15, t16, t17, t18, t19, t20, t21, t22, t23, t24, t25, t26, t27, t28, t29, t30, t31, t32, t33, t34, t35, t36, t37, t38, t39, t40, t41, t42, t43, t44, t45, t46, t47, t48, t49, t50, t51, t52, t53, t54, t55, t56, t57, t58, t59, t60, t61, t62, t63, t64, t65, t66, t67, t68, t69, t70, t71, t72, t73, t74, t75, t76, t77, t78, t79, t80, t81, t82, t83, t84, t85, t86, t87, t88, t89, t90, t91, t92, t93, t94, t95, t96, t97, t98, t99, t100, t101, t102, t103, t104, t105, t106, t107, t108, t109, t110, t111, t112, t113, t114, t115, t116, t117, t118, t119, t120, t121, t122, t123, t124, t125, t126, t127, t128, t129, t130, t131, t132, t133, t134, t135, t136, t137, t138, t139, t140, t141, t142, t143, t144, t145, t146, t147, t148, t149, t150, t151, t152, t153, t154, t155, t156, t157, t158, t159, t160, t161, t162, t163, t164, t165, t166, t167, t168, t169, t170, t171, t172, t173, t174, t175, t176, t177, t178, t179, t180, t181, t182, t183, t184, t185, t186, t187, t188, t189, t190, t191, t192, t193, t194, t195, t196, t197, t198, t199, t200, t201, t202, t203, t204, t205, t206], defers := [] } wc := by
  have y00 := HQ0.out.cell 0
  have y01 := HQ0.out.cell 1
  have y10 := HQ1.out.cell 0
  have y11 := HQ1.out.cell 1
  have y20 := HQ2.out.cell 0
  have y21 := HQ2.out.cell 1
  simp only [List.getElem?_toArray, List.getElem?_cons_zero, List.getElem?_cons_succ] at y00 y01 y10 y11 y20 y21
  have hst : Below wc.heap.size wc wc.drew := (Below.refl _ _).drew
  have HBS := Lib.hid hst
  refine wp_region_held_drew (S := fun W => Below wc.heap.size wc W) (by kernel_rfl) hst (fun hHeld => ?_)
  change wpAnyH _ _ ops3 _ _ 12 #[false, false, false, false, false, false, false, false, false, false, false, false] _ _
  obtain ⟨wn, hwn⟩ : ∃ W, wc.drew = W := ⟨_, rfl⟩
  rw [hwn] at HBS hHeld
  rw [hwn]
  clear hwn
  refine wpAnyH_take (i := 0) (v := ?_) (op_of rfl) (by kernel_rfl) (by kernel_rfl) (by kernel_rfl) (fun _ _ _ => hP _ _ _ _ _) (Or.inl ⟨by rfl, fun W hS => ?_⟩) (by assumption) ?_
  rotate_left
  · dsimp only at hS
    have z0 := (hS.cell (World.block_lt_of_cell? _ _ y00)).trans y00
    have z1 := (hS.cell (World.block_lt_of_cell? _ _ y01)).trans y01
    go_simp
    try with_reducible rfl
  try dsimp only [Act.put]
  try simp only [List.setIfInBounds_toArray, List.set_cons_zero, List.set_cons_succ]
  refine wpAnyH_take (i := 2) (v := ?_) (op_of rfl) (by kernel_rfl) (by kernel_rfl) (by kernel_rfl) (fun _ _ _ => hP _ _ _ _ _) (Or.inl ⟨by rfl, fun W hS => ?_⟩) (by assumption) ?_
  rotate_left
  · dsimp only at hS
    have z0 := (hS.cell (World.block_lt_of_cell? _ _ y10)).trans y10
    have z1 := (hS.cell (World.block_lt_of_cell? _ _ y11)).trans y11
    go_simp
    try with_reducible rfl
  try dsimp only [Act.put]
  try simp only [List.setIfInBounds_toArray, List.set_cons_zero, List.set_cons_succ]
  refine wpAnyH_take (i := 4) (v := ?_) (op_of rfl) (by kernel_rfl) (by kernel_rfl) (by kernel_rfl) (fun _ _ _ => hP _ _ _ _ _) (Or.inl ⟨by rfl, fun W hS => ?_⟩) (by assumption) ?_
  rotate_left
  · dsimp only at hS
    have z0 := (hS.cell (World.block_lt_of_cell? _ _ y20)).trans y20
    have z1 := (hS.cell (World.block_lt_of_cell? _ _ y21)).trans y21
    go_simp
    try with_reducible rfl
  try dsimp only [Act.put]
  try simp only [List.setIfInBounds_toArray, List.set_cons_zero, List.set_cons_succ]
  refine memoH (fun a G => ∀ (wn : World) (g6 : Nat) (g7 : Nat) (g8 : Nat) (B1 : Option Addr) (i1 e1 : Nat) (B2 : Option Addr) (i2 e2 L1 L2 : Nat) (B3 : Option Addr) (i3 e3 : Nat) (B4 : Option Addr) (i4 e4 L3 L4 : Nat) (B5 : Option Addr) (i5 e5 : Nat) (B6 : Option Addr) (i6 e6 L5 L6 : Nat), (Below wc.heap.size wc wn) → (Blk wn g6 32 #[.slice none 0 0, .slice none 0 0]) → (wc.heap.size ≤ g6) → (Blk wn g7 32 #[.slice none 0 0, .slice none 0 0]) → (wc.heap.size ≤ g7) → (Blk wn g8 32 #[.slice none 0 0, .slice none 0 0]) → (wc.heap.size ≤ g8) → (g6 ≠ g7) → (g6 ≠ g8) → (g7 ≠ g8) → (Num wn L1 (.agg #[.slice B1 i1 e1]) (U X1)) → (Num wn L2 (.agg #[.slice B2 i2 e2]) (U X2)) → (Num wn L3 (.agg #[.slice B3 i3 e3]) (U X3)) → (Num wn L4 (.agg #[.slice B4 i4 e4]) (U X4)) → (Num wn L5 (.agg #[.slice B5 i5 e5]) (U X5)) → (Num wn L6 (.agg #[.slice B6 i6 e6]) (U X6)) → G ((((((a.put (some 7) (.pointer (some ⟨g6, 0, none⟩))).put (some 8) (.pointer (some ⟨g7, 0, none⟩))).put (some 9) (.pointer (some ⟨g8, 0, none⟩))).put (some 46) (.agg #[.slice B1 i1 e1, .slice B2 i2 e2])).put (some 48) (.agg #[.slice B3 i3 e3, .slice B4 i4 e4])).put (some 50) (.agg #[.slice B5 i5 e5, .slice B6 i6 e6])) wn) 3 #[true, true, true, true, true, true, true, true, true, false, false, false] ?_ ?_
  · try dsimp only [Act.put]
    try simp only [List.setIfInBounds_toArray, List.set_cons_zero, List.set_cons_succ]
    intro wn g6 g7 g8 B1 i1 e1 B2 i2 e2 L1 L2 B3 i3 e3 B4 i4 e4 L3 L4 B5 i5 e5 B6 i6 e6 L5 L6 HBS HK6 f6 HK7 f7 HK8 f8 d6_7 d6_8 d7_8 HM1 HN1 HM3 HN3 HM5 HN5
    have HBS := Lib.hid HBS
    have HK6 := Lib.hid HK6
    have HK7 := Lib.hid HK7
    have HK8 := Lib.hid HK8
    have HM1 := Lib.hid HM1
    have HN1 := Lib.hid HN1
    have HM3 := Lib.hid HM3
    have HN3 := Lib.hid HN3
    have HM5 := Lib.hid HM5
    have HN5 := Lib.hid HN5
    refine wpAnyH_ready (rs := [9]) (by kernel_rfl) (by simp) (AllReadyH.cons (op_of rfl) (fun K hK => ?_) AllReadyH.nil)
    have k0 := HK6.out.cell 0
    have k1 := HK6.out.cell 1
    have f0 := HK6.out.frozen 0
    have f1 := HK6.out.frozen 1
    simp only [List.getElem?_toArray, List.getElem?_cons_zero, List.getElem?_cons_succ] at k0 k1
    go_simp
    have k1s : (wn.setCell ⟨g6, 0, none⟩ (.slice B1 i1 e1)).cell? ⟨g6, 1, none⟩ = some (.slice none 0 0) := (World.cell?_setCell_other _ _ _ _ (by intro e; injection e; omega)).trans k1
    have HBS := Lib.hid ((HBS.out.setCell (p := ⟨g6, 0, none⟩) f6 (.slice B1 i1 e1)).setCell (p := ⟨g6, 1, none⟩) f6 (.slice B2 i2 e2))
    have HM1 := Lib.hid ((HM1.out.setSi (u := (.slice B1 i1 e1)) k0).setSi (u := (.slice B2 i2 e2)) k1s)
    have HN1 := Lib.hid ((HN1.out.setSi (u := (.slice B1 i1 e1)) k0).setSi (u := (.slice B2 i2 e2)) k1s)
    have HM3 := Lib.hid ((HM3.out.setSi (u := (.slice B1 i1 e1)) k0).setSi (u := (.slice B2 i2 e2)) k1s)
    have HN3 := Lib.hid ((HN3.out.setSi (u := (.slice B1 i1 e1)) k0).setSi (u := (.slice B2 i2 e2)) k1s)
    have HM5 := Lib.hid ((HM5.out.setSi (u := (.slice B1 i1 e1)) k0).setSi (u := (.slice B2 i2 e2)) k1s)
    have HN5 := Lib.hid ((HN5.out.setSi (u := (.slice B1 i1 e1)) k0).setSi (u := (.slice B2 i2 e2)) k1s)
    have HK6 := Lib.hid (put_Q HK6.out (.slice B1 i1 e1) (.slice B2 i2 e2))
    have HK7 := Lib.hid ((HK7.out.far (p := ⟨g6, 0, none⟩) (by show g7 ≠ g6; omega) (.slice B1 i1 e1)).far (p := ⟨g6, 1, none⟩) (by show g7 ≠ g6; omega) (.slice B2 i2 e2))
    have HK8 := Lib.hid ((HK8.out.far (p := ⟨g6, 0, none⟩) (by show g8 ≠ g6; omega) (.slice B1 i1 e1)).far (p := ⟨g6, 1, none⟩) (by show g8 ≠ g6; omega) (.slice B2 i2 e2))
    obtain ⟨wn, hwm⟩ : ∃ W, (wn.setCell ⟨g6, 0, none⟩ (.slice B1 i1 e1)).setCell ⟨g6, 1, none⟩ (.slice B2 i2 e2) = W := ⟨_, rfl⟩
    rw [hwm] at HBS HM1 HM3 HM5 HN1 HN3 HN5 HK6 HK7 HK8
    rw [hwm]
    clear hwm k0 k1 k1s f0 f1
    refine hK.out _ _ HBS.out (fun hHeld => ?_)
    clear hK K
    try dsimp only [Act.put]
    try simp only [List.setIfInBounds_toArray, List.set_cons_zero, List.set_cons_succ]
    refine wpAnyH_ready (rs := [10]) (by kernel_rfl) (by simp) (AllReadyH.cons (op_of rfl) (fun K hK => ?_) AllReadyH.nil)
    have k0 := HK7.out.cell 0
    have k1 := HK7.out.cell 1
    have f0 := HK7.out.frozen 0
    have f1 := HK7.out.frozen 1
    simp only [List.getElem?_toArray, List.getElem?_cons_zero, List.getElem?_cons_succ] at k0 k1
    go_simp
    have k1s : (wn.setCell ⟨g7, 0, none⟩ (.slice B3 i3 e3)).cell? ⟨g7, 1, none⟩ = some (.slice none 0 0) := (World.cell?_setCell_other _ _ _ _ (by intro e; injection e; omega)).trans k1
    have HBS := Lib.hid ((HBS.out.setCell (p := ⟨g7, 0, none⟩) f7 (.slice B3 i3 e3)).setCell (p := ⟨g7, 1, none⟩) f7 (.slice B4 i4 e4))
    have HM1 := Lib.hid ((HM1.out.setSi (u := (.slice B3 i3 e3)) k0).setSi (u := (.slice B4 i4 e4)) k1s)
    have HN1 := Lib.hid ((HN1.out.setSi (u := (.slice B3 i3 e3)) k0).setSi (u := (.slice B4 i4 e4)) k1s)
    have HM3 := Lib.hid ((HM3.out.setSi (u := (.slice B3 i3 e3)) k0).setSi (u := (.slice B4 i4 e4)) k1s)
    have HN3 := Lib.hid ((HN3.out.setSi (u := (.slice B3 i3 e3)) k0).setSi (u := (.slice B4 i4 e4)) k1s)
    have HM5 := Lib.hid ((HM5.out.setSi (u := (.slice B3 i3 e3)) k0).setSi (u := (.slice B4 i4 e4)) k1s)
    have HN5 := Lib.hid ((HN5.out.setSi (u := (.slice B3 i3 e3)) k0).setSi (u := (.slice B4 i4 e4)) k1s)
    have HK6 := Lib.hid ((HK6.out.far (p := ⟨g7, 0, none⟩) (by show g6 ≠ g7; omega) (.slice B3 i3 e3)).far (p := ⟨g7, 1, none⟩) (by show g6 ≠ g7; omega) (.slice B4 i4 e4))
    have HK7 := Lib.hid (put_Q HK7.out (.slice B3 i3 e3) (.slice B4 i4 e4))
    have HK8 := Lib.hid ((HK8.out.far (p := ⟨g7, 0, none⟩) (by show g8 ≠ g7; omega) (.slice B3 i3 e3)).far (p := ⟨g7, 1, none⟩) (by show g8 ≠ g7; omega) (.slice B4 i4 e4))
    obtain ⟨wn, hwm⟩ : ∃ W, (wn.setCell ⟨g7, 0, none⟩ (.slice B3 i3 e3)).setCell ⟨g7, 1, none⟩ (.slice B4 i4 e4) = W := ⟨_, rfl⟩
    rw [hwm] at HBS HM1 HM3 HM5 HN1 HN3 HN5 HK6 HK7 HK8
    rw [hwm]
    clear hwm k0 k1 k1s f0 f1
    refine hK.out _ _ HBS.out (fun hHeld => ?_)
    clear hK K
    try dsimp only [Act.put]
    try simp only [List.setIfInBounds_toArray, List.set_cons_zero, List.set_cons_succ]
    refine wpAnyH_ready (rs := [11]) (by kernel_rfl) (by simp) (AllReadyH.cons (op_of rfl) (fun K hK => ?_) AllReadyH.nil)
    have k0 := HK8.out.cell 0
    have k1 := HK8.out.cell 1
    have f0 := HK8.out.frozen 0
    have f1 := HK8.out.frozen 1
    simp only [List.getElem?_toArray, List.getElem?_cons_zero, List.getElem?_cons_succ] at k0 k1
    go_simp
    have k1s : (wn.setCell ⟨g8, 0, none⟩ (.slice B5 i5 e5)).cell? ⟨g8, 1, none⟩ = some (.slice none 0 0) := (World.cell?_setCell_other _ _ _ _ (by intro e; injection e; omega)).trans k1
    have HBS := Lib.hid ((HBS.out.setCell (p := ⟨g8, 0, none⟩) f8 (.slice B5 i5 e5)).setCell (p := ⟨g8, 1, none⟩) f8 (.slice B6 i6 e6))
    have HM1 := Lib.hid ((HM1.out.setSi (u := (.slice B5 i5 e5)) k0).setSi (u := (.slice B6 i6 e6)) k1s)
    have HN1 := Lib.hid ((HN1.out.setSi (u := (.slice B5 i5 e5)) k0).setSi (u := (.slice B6 i6 e6)) k1s)
    have HM3 := Lib.hid ((HM3.out.setSi (u := (.slice B5 i5 e5)) k0).setSi (u := (.slice B6 i6 e6)) k1s)
    have HN3 := Lib.hid ((HN3.out.setSi (u := (.slice B5 i5 e5)) k0).setSi (u := (.slice B6 i6 e6)) k1s)
    have HM5 := Lib.hid ((HM5.out.setSi (u := (.slice B5 i5 e5)) k0).setSi (u := (.slice B6 i6 e6)) k1s)
    have HN5 := Lib.hid ((HN5.out.setSi (u := (.slice B5 i5 e5)) k0).setSi (u := (.slice B6 i6 e6)) k1s)
    have HK6 := Lib.hid ((HK6.out.far (p := ⟨g8, 0, none⟩) (by show g6 ≠ g8; omega) (.slice B5 i5 e5)).far (p := ⟨g8, 1, none⟩) (by show g6 ≠ g8; omega) (.slice B6 i6 e6))
    have HK7 := Lib.hid ((HK7.out.far (p := ⟨g8, 0, none⟩) (by show g7 ≠ g8; omega) (.slice B5 i5 e5)).far (p := ⟨g8, 1, none⟩) (by show g7 ≠ g8; omega) (.slice B6 i6 e6))
    have HK8 := Lib.hid (put_Q HK8.out (.slice B5 i5 e5) (.slice B6 i6 e6))
    obtain ⟨wn, hwm⟩ : ∃ W, (wn.setCell ⟨g8, 0, none⟩ (.slice B5 i5 e5)).setCell ⟨g8, 1, none⟩ (.slice B6 i6 e6) = W := ⟨_, rfl⟩
    rw [hwm] at HBS HM1 HM3 HM5 HN1 HN3 HN5 HK6 HK7 HK8
    rw [hwm]
    clear hwm k0 k1 k1s f0 f1
    refine hK.out _ _ HBS.out (fun hHeld => ?_)
    clear hK K
    try dsimp only [Act.put]
    try simp only [List.setIfInBounds_toArray, List.set_cons_zero, List.set_cons_succ]
    refine wpAnyH_done (by kernel_rfl) ?_ _
    exact hQ _ _ _ _ _ _ _ _ _ _ ⟨_, _, _, _, _, _, HK6.out, ⟨_, HM1.out⟩, ⟨_, HN1.out⟩⟩ ⟨_, _, _, _, _, _, HK7.out, ⟨_, HM3.out⟩, ⟨_, HN3.out⟩⟩ ⟨_, _, _, _, _, _, HK8.out, ⟨_, HM5.out⟩, ⟨_, HN5.out⟩⟩ HBS.out (by omega) (by omega) (by omega)
  intro key
  try dsimp only [Act.put] at key
  try simp only [List.setIfInBounds_toArray, List.set_cons_zero, List.set_cons_succ] at key
  have K_1_3_5_6_7_8 := Lib.hid key
  clear key
  refine memoH (fun a G => ∀ (wn : World) (g6 : Nat) (g7 : Nat) (g8 : Nat) (B1 : Option Addr) (i1 e1 : Nat) (B2 : Option Addr) (i2 e2 L1 L2 : Nat) (B3 : Option Addr) (i3 e3 : Nat) (B4 : Option Addr) (i4 e4 L3 L4 : Nat), (Below wc.heap.size wc wn) → (Blk wn g6 32 #[.slice none 0 0, .slice none 0 0]) → (wc.heap.size ≤ g6) → (Blk wn g7 32 #[.slice none 0 0, .slice none 0 0]) → (wc.heap.size ≤ g7) → (Blk wn g8 32 #[.slice none 0 0, .slice none 0 0]) → (wc.heap.size ≤ g8) → (g6 ≠ g7) → (g6 ≠ g8) → (g7 ≠ g8) → (Num wn L1 (.agg #[.slice B1 i1 e1]) (U X1)) → (Num wn L2 (.agg #[.slice B2 i2 e2]) (U X2)) → (Num wn L3 (.agg #[.slice B3 i3 e3]) (U X3)) → (Num wn L4 (.agg #[.slice B4 i4 e4]) (U X4)) → G (((((a.put (some 7) (.pointer (some ⟨g6, 0, none⟩))).put (some 8) (.pointer (some ⟨g7, 0, none⟩))).put (some 9) (.pointer (some ⟨g8, 0, none⟩))).put (some 46) (.agg #[.slice B1 i1 e1, .slice B2 i2 e2])).put (some 48) (.agg #[.slice B3 i3 e3, .slice B4 i4 e4])) wn) 4 #[true, true, true, true, true, false, true, true, true, false, false, false] ?_ ?_
  · try dsimp only [Act.put]
    try simp only [List.setIfInBounds_toArray, List.set_cons_zero, List.set_cons_succ]
    intro wn g6 g7 g8 B1 i1 e1 B2 i2 e2 L1 L2 B3 i3 e3 B4 i4 e4 L3 L4 HBS HK6 f6 HK7 f7 HK8 f8 d6_7 d6_8 d7_8 HM1 HN1 HM3 HN3
    have HBS := Lib.hid HBS
    have HK6 := Lib.hid HK6
    have HK7 := Lib.hid HK7
    have HK8 := Lib.hid HK8
    have HM1 := Lib.hid HM1
    have HN1 := Lib.hid HN1
    have HM3 := Lib.hid HM3
    have HN3 := Lib.hid HN3
    refine wpAnyH_ready (rs := [5]) (by kernel_rfl) (by simp) (AllReadyH.cons (op_of rfl) (fun K hK => ?_) AllReadyH.nil)
    go_simp
    refine (in4_b A5 A6 X5 X6 n5 c5 n6 c6 _ HL5.out HL6.out ((HR5.out.below HBS.out (Nat.le_refl _)).more HBS.out.size) ((HR6.out.below HBS.out (Nat.le_refl _)).more HBS.out.size) HD5.out HD6.out (by omega) (by omega)).mono ?_
    rintro en wn ⟨B5, i5, e5, B6, i6, e6, rfl, ⟨L5, hl1, hx1⟩, ⟨L6, hl2, hx2⟩, hb⟩
    clear hl1 hl2
    have HBS := Lib.hid (HBS.out.trans (hb.mono HBS.out.size))
    have HK6 := Lib.hid (HK6.out.below hb HK6.out.lt)
    have HK7 := Lib.hid (HK7.out.below hb HK7.out.lt)
    have HK8 := Lib.hid (HK8.out.below hb HK8.out.lt)
    have HM1 := Lib.hid (HM1.out.below hb)
    have HN1 := Lib.hid (HN1.out.below hb)
    have HM3 := Lib.hid (HM3.out.below hb)
    have HN3 := Lib.hid (HN3.out.below hb)
    have HM5 := Lib.hid hx1
    have HN5 := Lib.hid hx2
    clear hx1 hx2 hb
    refine hK.out _ _ HBS.out (fun hHeld => ?_)
    clear hK K
    try dsimp only [Act.put]
    try simp only [List.setIfInBounds_toArray, List.set_cons_zero, List.set_cons_succ]
    exact K_1_3_5_6_7_8.out _ _ _ _ _ _ _ _ _ _ _ _ _ _ _ _ _ _ _ _ _ _ _ _ _ _ _ _ HBS.out HK6.out f6 HK7.out f7 HK8.out f8 d6_7 d6_8 d7_8 HM1.out HN1.out HM3.out HN3.out HM5.out HN5.out
  intro key
  try dsimp only [Act.put] at key
  try simp only [List.setIfInBounds_toArray, List.set_cons_zero, List.set_cons_succ] at key
  have K_1_3_6_7_8 := Lib.hid key
  clear key
  refine memoH (fun a G => ∀ (wn : World) (g6 : Nat) (g7 : Nat) (B1 : Option Addr) (i1 e1 : Nat) (B2 : Option Addr) (i2 e2 L1 L2 : Nat) (B3 : Option Addr) (i3 e3 : Nat) (B4 : Option Addr) (i4 e4 L3 L4 : Nat) (B5 : Option Addr) (i5 e5 : Nat) (B6 : Option Addr) (i6 e6 L5 L6 : Nat), (Below wc.heap.size wc wn) → (Blk wn g6 32 #[.slice none 0 0, .slice none 0 0]) → (wc.heap.size ≤ g6) → (Blk wn g7 32 #[.slice none 0 0, .slice none 0 0]) → (wc.heap.size ≤ g7) → (g6 ≠ g7) → (Num wn L1 (.agg #[.slice B1 i1 e1]) (U X1)) → (Num wn L2 (.agg #[.slice B2 i2 e2]) (U X2)) → (Num wn L3 (.agg #[.slice B3 i3 e3]) (U X3)) → (Num wn L4 (.agg #[.slice B4 i4 e4]) (U X4)) → (Num wn L5 (.agg #[.slice B5 i5 e5]) (U X5)) → (Num wn L6 (.agg #[.slice B6 i6 e6]) (U X6)) → G (((((a.put (some 7) (.pointer (some ⟨g6, 0, none⟩))).put (some 8) (.pointer (some ⟨g7, 0, none⟩))).put (some 46) (.agg #[.slice B1 i1 e1, .slice B2 i2 e2])).put (some 48) (.agg #[.slice B3 i3 e3, .slice B4 i4 e4])).put (some 50) (.agg #[.slice B5 i5 e5, .slice B6 i6 e6])) wn) 4 #[true, true, true, true, true, true, true, true, false, false, false, false] ?_ ?_
  · try dsimp only [Act.put]
    try simp only [List.setIfInBounds_toArray, List.set_cons_zero, List.set_cons_succ]
    intro wn g6 g7 B1 i1 e1 B2 i2 e2 L1 L2 B3 i3 e3 B4 i4 e4 L3 L4 B5 i5 e5 B6 i6 e6 L5 L6 HBS HK6 f6 HK7 f7 d6_7 HM1 HN1 HM3 HN3 HM5 HN5
    have HBS := Lib.hid HBS
    have HK6 := Lib.hid HK6
    have HK7 := Lib.hid HK7
    have HM1 := Lib.hid HM1
    have HN1 := Lib.hid HN1
    have HM3 := Lib.hid HM3
    have HN3 := Lib.hid HN3
    have HM5 := Lib.hid HM5
    have HN5 := Lib.hid HN5
    refine wpAnyH_ready (rs := [8]) (by kernel_rfl) (by simp) (AllReadyH.cons (op_of rfl) (fun K hK => ?_) AllReadyH.nil)
    go_simp
    have hk := qbox wn
    have hb := b1 wn (.cells #[.slice none 0 0, .slice none 0 0] 32)
    obtain ⟨g8, hg8⟩ : ∃ g, wn.heap.size = g := ⟨_, rfl⟩
    have o6 : g6 < wn.heap.size := HK6.out.lt
    rw [hg8] at o6
    have d6_8 : g6 ≠ g8 := by omega
    clear o6
    have o7 : g7 < wn.heap.size := HK7.out.lt
    rw [hg8] at o7
    have d7_8 : g7 ≠ g8 := by omega
    clear o7
    have f8 : wc.heap.size ≤ wn.heap.size := HBS.out.size
    rw [hg8] at f8
    have HBS := Lib.hid (HBS.out.trans (hb.mono HBS.out.size))
    have HK6 := Lib.hid (HK6.out.below hb HK6.out.lt)
    have HK7 := Lib.hid (HK7.out.below hb HK7.out.lt)
    have HM1 := Lib.hid (HM1.out.below hb)
    have HN1 := Lib.hid (HN1.out.below hb)
    have HM3 := Lib.hid (HM3.out.below hb)
    have HN3 := Lib.hid (HN3.out.below hb)
    have HM5 := Lib.hid (HM5.out.below hb)
    have HN5 := Lib.hid (HN5.out.below hb)
    obtain ⟨wn, hwm⟩ : ∃ W, wn.alloc (.cells #[.slice none 0 0, .slice none 0 0] 32) = W := ⟨_, rfl⟩
    rw [hwm] at hk HBS HK6 HK7 HM1 HN1 HM3 HN3 HM5 HN5
    rw [hg8] at hk ⊢
    rw [hwm]
    have HK8 := Lib.hid hk
    clear hk hb hg8 hwm
    refine hK.out _ _ HBS.out (fun hHeld => ?_)
    clear hK K
    try dsimp only [Act.put]
    try simp only [List.setIfInBounds_toArray, List.set_cons_zero, List.set_cons_succ]
    exact K_1_3_5_6_7_8.out _ _ _ _ _ _ _ _ _ _ _ _ _ _ _ _ _ _ _ _ _ _ _ _ _ _ _ _ HBS.out HK6.out f6 HK7.out f7 HK8.out f8 d6_7 d6_8 d7_8 HM1.out HN1.out HM3.out HN3.out HM5.out HN5.out
  intro key
  try dsimp only [Act.put] at key
  try simp only [List.setIfInBounds_toArray, List.set_cons_zero, List.set_cons_succ] at key
  have K_1_3_5_6_7 := Lib.hid key
  clear key
  refine memoH (fun a G => ∀ (wn : World) (g6 : Nat) (g8 : Nat) (B1 : Option Addr) (i1 e1 : Nat) (B2 : Option Addr) (i2 e2 L1 L2 : Nat) (B3 : Option Addr) (i3 e3 : Nat) (B4 : Option Addr) (i4 e4 L3 L4 : Nat) (B5 : Option Addr) (i5 e5 : Nat) (B6 : Option Addr) (i6 e6 L5 L6 : Nat), (Below wc.heap.size wc wn) → (Blk wn g6 32 #[.slice none 0 0, .slice none 0 0]) → (wc.heap.size ≤ g6) → (Blk wn g8 32 #[.slice none 0 0, .slice none 0 0]) → (wc.heap.size ≤ g8) → (g6 ≠ g8) → (Num wn L1 (.agg #[.slice B1 i1 e1]) (U X1)) → (Num wn L2 (.agg #[.slice B2 i2 e2]) (U X2)) → (Num wn L3 (.agg #[.slice B3 i3 e3]) (U X3)) → (Num wn L4 (.agg #[.slice B4 i4 e4]) (U X4)) → (Num wn L5 (.agg #[.slice B5 i5 e5]) (U X5)) → (Num wn L6 (.agg #[.slice B6 i6 e6]) (U X6)) → G (((((a.put (some 7) (.pointer (some ⟨g6, 0, none⟩))).put (some 9) (.pointer (some ⟨g8, 0, none⟩))).put (some 46) (.agg #[.slice B1 i1 e1, .slice B2 i2 e2])).put (some 48) (.agg #[.slice B3 i3 e3, .slice B4 i4 e4])).put (some 50) (.agg #[.slice B5 i5 e5, .slice B6 i6 e6])) wn) 4 #[true, true, true, true, true, true, true, false, true, false, false, false] ?_ ?_
  · try dsimp only [Act.put]
    try simp only [List.setIfInBounds_toArray, List.set_cons_zero, List.set_cons_succ]
    intro wn g6 g8 B1 i1 e1 B2 i2 e2 L1 L2 B3 i3 e3 B4 i4 e4 L3 L4 B5 i5 e5 B6 i6 e6 L5 L6 HBS HK6 f6 HK8 f8 d6_8 HM1 HN1 HM3 HN3 HM5 HN5
    have HBS := Lib.hid HBS
    have HK6 := Lib.hid HK6
    have HK8 := Lib.hid HK8
    have HM1 := Lib.hid HM1
    have HN1 := Lib.hid HN1
    have HM3 := Lib.hid HM3
    have HN3 := Lib.hid HN3
    have HM5 := Lib.hid HM5
    have HN5 := Lib.hid HN5
    refine wpAnyH_ready (rs := [7]) (by kernel_rfl) (by simp) (AllReadyH.cons (op_of rfl) (fun K hK => ?_) AllReadyH.nil)
    go_simp
    have hk := qbox wn
    have hb := b1 wn (.cells #[.slice none 0 0, .slice none 0 0] 32)
    obtain ⟨g7, hg7⟩ : ∃ g, wn.heap.size = g := ⟨_, rfl⟩
    have o6 : g6 < wn.heap.size := HK6.out.lt
    rw [hg7] at o6
    have d6_7 : g6 ≠ g7 := by omega
    clear o6
    have o8 : g8 < wn.heap.size := HK8.out.lt
    rw [hg7] at o8
    have d7_8 : g7 ≠ g8 := by omega
    clear o8
    have f7 : wc.heap.size ≤ wn.heap.size := HBS.out.size
    rw [hg7] at f7
    have HBS := Lib.hid (HBS.out.trans (hb.mono HBS.out.size))
    have HK6 := Lib.hid (HK6.out.below hb HK6.out.lt)
    have HK8 := Lib.hid (HK8.out.below hb HK8.out.lt)
    have HM1 := Lib.hid (HM1.out.below hb)
    have HN1 := Lib.hid (HN1.out.below hb)
    have HM3 := Lib.hid (HM3.out.below hb)
    have HN3 := Lib.hid (HN3.out.below hb)
    have HM5 := Lib.hid (HM5.out.below hb)
    have HN5 := Lib.hid (HN5.out.below hb)
    obtain ⟨wn, hwm⟩ : ∃ W, wn.alloc (.cells #[.slice none 0 0, .slice none 0 0] 32) = W := ⟨_, rfl⟩
    rw [hwm] at hk HBS HK6 HK8 HM1 HN1 HM3 HN3 HM5 HN5
    rw [hg7] at hk ⊢
    rw [hwm]
    have HK7 := Lib.hid hk
    clear hk hb hg7 hwm
    refine hK.out _ _ HBS.out (fun hHeld => ?_)
    clear hK K
    try dsimp only [Act.put]
    try simp only [List.setIfInBounds_toArray, List.set_cons_zero, List.set_cons_succ]
    exact K_1_3_5_6_7_8.out _ _ _ _ _ _ _ _ _ _ _ _ _ _ _ _ _ _ _ _ _ _ _ _ _ _ _ _ HBS.out HK6.out f6 HK7.out f7 HK8.out f8 d6_7 d6_8 d7_8 HM1.out HN1.out HM3.out HN3.out HM5.out HN5.out
  intro key
  try dsimp only [Act.put] at key
  try simp only [List.setIfInBounds_toArray, List.set_cons_zero, List.set_cons_succ] at key
  have K_1_3_5_6_8 := Lib.hid key
  clear key
  refine memoH (fun a G => ∀ (wn : World) (g7 : Nat) (g8 : Nat) (B1 : Option Addr) (i1 e1 : Nat) (B2 : Option Addr) (i2 e2 L1 L2 : Nat) (B3 : Option Addr) (i3 e3 : Nat) (B4 : Option Addr) (i4 e4 L3 L4 : Nat) (B5 : Option Addr) (i5 e5 : Nat) (B6 : Option Addr) (i6 e6 L5 L6 : Nat), (Below wc.heap.size wc wn) → (Blk wn g7 32 #[.slice none 0 0, .slice none 0 0]) → (wc.heap.size ≤ g7) → (Blk wn g8 32 #[.slice none 0 0, .slice none 0 0]) → (wc.heap.size ≤ g8) → (g7 ≠ g8) → (Num wn L1 (.agg #[.slice B1 i1 e1]) (U X1)) → (Num wn L2 (.agg #[.slice B2 i2 e2]) (U X2)) → (Num wn L3 (.agg #[.slice B3 i3 e3]) (U X3)) → (Num wn L4 (.agg #[.slice B4 i4 e4]) (U X4)) → (Num wn L5 (.agg #[.slice B5 i5 e5]) (U X5)) → (Num wn L6 (.agg #[.slice B6 i6 e6]) (U X6)) → G (((((a.put (some 8) (.pointer (some ⟨g7, 0, none⟩))).put (some 9) (.pointer (some ⟨g8, 0, none⟩))).put (some 46) (.agg #[.slice B1 i1 e1, .slice B2 i2 e2])).put (some 48) (.agg #[.slice B3 i3 e3, .slice B4 i4 e4])).put (some 50) (.agg #[.slice B5 i5 e5, .slice B6 i6 e6])) wn) 4 #[true, true, true, true, true, true, false, true, true, false, false, false] ?_ ?_
  · try dsimp only [Act.put]
    try simp only [List.setIfInBounds_toArray, List.set_cons_zero, List.set_cons_succ]
    intro wn g7 g8 B1 i1 e1 B2 i2 e2 L1 L2 B3 i3 e3 B4 i4 e4 L3 L4 B5 i5 e5 B6 i6 e6 L5 L6 HBS HK7 f7 HK8 f8 d7_8 HM1 HN1 HM3 HN3 HM5 HN5
    have HBS := Lib.hid HBS
    have HK7 := Lib.hid HK7
    have HK8 := Lib.hid HK8
    have HM1 := Lib.hid HM1
    have HN1 := Lib.hid HN1
    have HM3 := Lib.hid HM3
    have HN3 := Lib.hid HN3
    have HM5 := Lib.hid HM5
    have HN5 := Lib.hid HN5
    refine wpAnyH_ready (rs := [6]) (by kernel_rfl) (by simp) (AllReadyH.cons (op_of rfl) (fun K hK => ?_) AllReadyH.nil)
    go_simp
    have hk := qbox wn
    have hb := b1 wn (.cells #[.slice none 0 0, .slice none 0 0] 32)
    obtain ⟨g6, hg6⟩ : ∃ g, wn.heap.size = g := ⟨_, rfl⟩
    have o7 : g7 < wn.heap.size := HK7.out.lt
    rw [hg6] at o7
    have d6_7 : g6 ≠ g7 := by omega
    clear o7
    have o8 : g8 < wn.heap.size := HK8.out.lt
    rw [hg6] at o8
    have d6_8 : g6 ≠ g8 := by omega
    clear o8
    have f6 : wc.heap.size ≤ wn.heap.size := HBS.out.size
    rw [hg6] at f6
    have HBS := Lib.hid (HBS.out.trans (hb.mono HBS.out.size))
    have HK7 := Lib.hid (HK7.out.below hb HK7.out.lt)
    have HK8 := Lib.hid (HK8.out.below hb HK8.out.lt)
    have HM1 := Lib.hid (HM1.out.below hb)
    have HN1 := Lib.hid (HN1.out.below hb)
    have HM3 := Lib.hid (HM3.out.below hb)
    have HN3 := Lib.hid (HN3.out.below hb)
    have HM5 := Lib.hid (HM5.out.below hb)
    have HN5 := Lib.hid (HN5.out.below hb)
    obtain ⟨wn, hwm⟩ : ∃ W, wn.alloc (.cells #[.slice none 0 0, .slice none 0 0] 32) = W := ⟨_, rfl⟩
    rw [hwm] at hk HBS HK7 HK8 HM1 HN1 HM3 HN3 HM5 HN5
    rw [hg6] at hk ⊢
    rw [hwm]
    have HK6 := Lib.hid hk
    clear hk hb hg6 hwm
    refine hK.out _ _ HBS.out (fun hHeld => ?_)
    clear hK K
    try dsimp only [Act.put]
    try simp only [List.setIfInBounds_toArray, List.set_cons_zero, List.set_cons_succ]
    exact K_1_3_5_6_7_8.out _ _ _ _ _ _ _ _ _ _ _ _ _ _ _ _ _ _ _ _ _ _ _ _ _ _ _ _ HBS.out HK6.out f6 HK7.out f7 HK8.out f8 d6_7 d6_8 d7_8 HM1.out HN1.out HM3.out HN3.out HM5.out HN5.out
  intro key
  try dsimp only [Act.put] at key
  try simp only [List.setIfInBounds_toArray, List.set_cons_zero, List.set_cons_succ] at key
  have K_1_3_5_7_8 := Lib.hid key
  clear key
  refine memoH (fun a G => ∀ (wn : World) (g6 : Nat) (g7 : Nat) (g8 : Nat) (B1 : Option Addr) (i1 e1 : Nat) (B2 : Option Addr) (i2 e2 L1 L2 : Nat), (Below wc.heap.size wc wn) → (Blk wn g6 32 #[.slice none 0 0, .slice none 0 0]) → (wc.heap.size ≤ g6) → (Blk wn g7 32 #[.slice none 0 0, .slice none 0 0]) → (wc.heap.size ≤ g7) → (Blk wn g8 32 #[.slice none 0 0, .slice none 0 0]) → (wc.heap.size ≤ g8) → (g6 ≠ g7) → (g6 ≠ g8) → (g7 ≠ g8) → (Num wn L1 (.agg #[.slice B1 i1 e1]) (U X1)) → (Num wn L2 (.agg #[.slice B2 i2 e2]) (U X2)) → G ((((a.put (some 7) (.pointer (some ⟨g6, 0, none⟩))).put (some 8) (.pointer (some ⟨g7, 0, none⟩))).put (some 9) (.pointer (some ⟨g8, 0, none⟩))).put (some 46) (.agg #[.slice B1 i1 e1, .slice B2 i2 e2])) wn) 5 #[true, true, true, false, true, false, true, true, true, false, false, false] ?_ ?_
  · try dsimp only [Act.put]
    try simp only [List.setIfInBounds_toArray, List.set_cons_zero, List.set_cons_succ]
    intro wn g6 g7 g8 B1 i1 e1 B2 i2 e2 L1 L2 HBS HK6 f6 HK7 f7 HK8 f8 d6_7 d6_8 d7_8 HM1 HN1
    have HBS := Lib.hid HBS
    have HK6 := Lib.hid HK6
    have HK7 := Lib.hid HK7
    have HK8 := Lib.hid HK8
    have HM1 := Lib.hid HM1
    have HN1 := Lib.hid HN1
    refine wpAnyH_ready (rs := [3]) (by kernel_rfl) (by simp) (AllReadyH.cons (op_of rfl) (fun K hK => ?_) AllReadyH.nil)
    go_simp
    refine (in4_b A3 A4 X3 X4 n3 c3 n4 c4 _ HL3.out HL4.out ((HR3.out.below HBS.out (Nat.le_refl _)).more HBS.out.size) ((HR4.out.below HBS.out (Nat.le_refl _)).more HBS.out.size) HD3.out HD4.out (by omega) (by omega)).mono ?_
    rintro en wn ⟨B3, i3, e3, B4, i4, e4, rfl, ⟨L3, hl1, hx1⟩, ⟨L4, hl2, hx2⟩, hb⟩
    clear hl1 hl2
    have HBS := Lib.hid (HBS.out.trans (hb.mono HBS.out.size))
    have HK6 := Lib.hid (HK6.out.below hb HK6.out.lt)
    have HK7 := Lib.hid (HK7.out.below hb HK7.out.lt)
    have HK8 := Lib.hid (HK8.out.below hb HK8.out.lt)
    have HM1 := Lib.hid (HM1.out.below hb)
    have HN1 := Lib.hid (HN1.out.below hb)
    have HM3 := Lib.hid hx1
    have HN3 := Lib.hid hx2
    clear hx1 hx2 hb
    refine hK.out _ _ HBS.out (fun hHeld => ?_)
    clear hK K
    try dsimp only [Act.put]
    try simp only [List.setIfInBounds_toArray, List.set_cons_zero, List.set_cons_succ]
    exact K_1_3_6_7_8.out _ _ _ _ _ _ _ _ _ _ _ _ _ _ _ _ _ _ _ _ HBS.out HK6.out f6 HK7.out f7 HK8.out f8 d6_7 d6_8 d7_8 HM1.out HN1.out HM3.out HN3.out
  intro key
  try dsimp only [Act.put] at key
  try simp only [List.setIfInBounds_toArray, List.set_cons_zero, List.set_cons_succ] at key
  have K_1_6_7_8 := Lib.hid key
  clear key
  refine memoH (fun a G => ∀ (wn : World) (g6 : Nat) (g7 : Nat) (B1 : Option Addr) (i1 e1 : Nat) (B2 : Option Addr) (i2 e2 L1 L2 : Nat) (B3 : Option Addr) (i3 e3 : Nat) (B4 : Option Addr) (i4 e4 L3 L4 : Nat), (Below wc.heap.size wc wn) → (Blk wn g6 32 #[.slice none 0 0, .slice none 0 0]) → (wc.heap.size ≤ g6) → (Blk wn g7 32 #[.slice none 0 0, .slice none 0 0]) → (wc.heap.size ≤ g7) → (g6 ≠ g7) → (Num wn L1 (.agg #[.slice B1 i1 e1]) (U X1)) → (Num wn L2 (.agg #[.slice B2 i2 e2]) (U X2)) → (Num wn L3 (.agg #[.slice B3 i3 e3]) (U X3)) → (Num wn L4 (.agg #[.slice B4 i4 e4]) (U X4)) → G ((((a.put (some 7) (.pointer (some ⟨g6, 0, none⟩))).put (some 8) (.pointer (some ⟨g7, 0, none⟩))).put (some 46) (.agg #[.slice B1 i1 e1, .slice B2 i2 e2])).put (some 48) (.agg #[.slice B3 i3 e3, .slice B4 i4 e4])) wn) 5 #[true, true, true, true, true, false, true, true, false, false, false, false] ?_ ?_
  · try dsimp only [Act.put]
    try simp only [List.setIfInBounds_toArray, List.set_cons_zero, List.set_cons_succ]
    intro wn g6 g7 B1 i1 e1 B2 i2 e2 L1 L2 B3 i3 e3 B4 i4 e4 L3 L4 HBS HK6 f6 HK7 f7 d6_7 HM1 HN1 HM3 HN3
    have HBS := Lib.hid HBS
    have HK6 := Lib.hid HK6
    have HK7 := Lib.hid HK7
    have HM1 := Lib.hid HM1
    have HN1 := Lib.hid HN1
    have HM3 := Lib.hid HM3
    have HN3 := Lib.hid HN3
    refine wpAnyH_ready (rs := [5, 8]) (by kernel_rfl) (by simp) (AllReadyH.cons (op_of rfl) (fun K hK => ?_) (AllReadyH.cons (op_of rfl) (fun K hK => ?_) AllReadyH.nil))
    · skip
      go_simp
      refine (in4_b A5 A6 X5 X6 n5 c5 n6 c6 _ HL5.out HL6.out ((HR5.out.below HBS.out (Nat.le_refl _)).more HBS.out.size) ((HR6.out.below HBS.out (Nat.le_refl _)).more HBS.out.size) HD5.out HD6.out (by omega) (by omega)).mono ?_
      rintro en wn ⟨B5, i5, e5, B6, i6, e6, rfl, ⟨L5, hl1, hx1⟩, ⟨L6, hl2, hx2⟩, hb⟩
      clear hl1 hl2
      have HBS := Lib.hid (HBS.out.trans (hb.mono HBS.out.size))
      have HK6 := Lib.hid (HK6.out.below hb HK6.out.lt)
      have HK7 := Lib.hid (HK7.out.below hb HK7.out.lt)
      have HM1 := Lib.hid (HM1.out.below hb)
      have HN1 := Lib.hid (HN1.out.below hb)
      have HM3 := Lib.hid (HM3.out.below hb)
      have HN3 := Lib.hid (HN3.out.below hb)
      have HM5 := Lib.hid hx1
      have HN5 := Lib.hid hx2
      clear hx1 hx2 hb
      refine hK.out _ _ HBS.out (fun hHeld => ?_)
      clear hK K
      try dsimp only [Act.put]
      try simp only [List.setIfInBounds_toArray, List.set_cons_zero, List.set_cons_succ]
      exact K_1_3_5_6_7.out _ _ _ _ _ _ _ _ _ _ _ _ _ _ _ _ _ _ _ _ _ _ _ _ _ _ _ HBS.out HK6.out f6 HK7.out f7 d6_7 HM1.out HN1.out HM3.out HN3.out HM5.out HN5.out
    · skip
      go_simp
      have hk := qbox wn
      have hb := b1 wn (.cells #[.slice none 0 0, .slice none 0 0] 32)
      obtain ⟨g8, hg8⟩ : ∃ g, wn.heap.size = g := ⟨_, rfl⟩
      have o6 : g6 < wn.heap.size := HK6.out.lt
      rw [hg8] at o6
      have d6_8 : g6 ≠ g8 := by omega
      clear o6
      have o7 : g7 < wn.heap.size := HK7.out.lt
      rw [hg8] at o7
      have d7_8 : g7 ≠ g8 := by omega
      clear o7
      have f8 : wc.heap.size ≤ wn.heap.size := HBS.out.size
      rw [hg8] at f8
      have HBS := Lib.hid (HBS.out.trans (hb.mono HBS.out.size))
      have HK6 := Lib.hid (HK6.out.below hb HK6.out.lt)
      have HK7 := Lib.hid (HK7.out.below hb HK7.out.lt)
      have HM1 := Lib.hid (HM1.out.below hb)
      have HN1 := Lib.hid (HN1.out.below hb)
      have HM3 := Lib.hid (HM3.out.below hb)
      have HN3 := Lib.hid (HN3.out.below hb)
      obtain ⟨wn, hwm⟩ : ∃ W, wn.alloc (.cells #[.slice none 0 0, .slice none 0 0] 32) = W := ⟨_, rfl⟩
      rw [hwm] at hk HBS HK6 HK7 HM1 HN1 HM3 HN3
      rw [hg8] at hk ⊢
      rw [hwm]
      have HK8 := Lib.hid hk
      clear hk hb hg8 hwm
      refine hK.out _ _ HBS.out (fun hHeld => ?_)
      clear hK K
      try dsimp only [Act.put]
      try simp only [List.setIfInBounds_toArray, List.set_cons_zero, List.set_cons_succ]
      exact K_1_3_6_7_8.out _ _ _ _ _ _ _ _ _ _ _ _ _ _ _ _ _ _ _ _ HBS.out HK6.out f6 HK7.out f7 HK8.out f8 d6_7 d6_8 d7_8 HM1.out HN1.out HM3.out HN3.out
  intro key
  try dsimp only [Act.put] at key
  try simp only [List.setIfInBounds_toArray, List.set_cons_zero, List.set_cons_succ] at key
  have K_1_3_6_7 := Lib.hid key
  clear key
  refine memoH (fun a G => ∀ (wn : World) (g6 : Nat) (g8 : Nat) (B1 : Option Addr) (i1 e1 : Nat) (B2 : Option Addr) (i2 e2 L1 L2 : Nat) (B3 : Option Addr) (i3 e3 : Nat) (B4 : Option Addr) (i4 e4 L3 L4 : Nat), (Below wc.heap.size wc wn) → (Blk wn g6 32 #[.slice none 0 0, .slice none 0 0]) → (wc.heap.size ≤ g6) → (Blk wn g8 32 #[.slice none 0 0, .slice none 0 0]) → (wc.heap.size ≤ g8) → (g6 ≠ g8) → (Num wn L1 (.agg #[.slice B1 i1 e1]) (U X1)) → (Num wn L2 (.agg #[.slice B2 i2 e2]) (U X2)) → (Num wn L3 (.agg #[.slice B3 i3 e3]) (U X3)) → (Num wn L4 (.agg #[.slice B4 i4 e4]) (U X4)) → G ((((a.put (some 7) (.pointer (some ⟨g6, 0, none⟩))).put (some 9) (.pointer (some ⟨g8, 0, none⟩))).put (some 46) (.agg #[.slice B1 i1 e1, .slice B2 i2 e2])).put (some 48) (.agg #[.slice B3 i3 e3, .slice B4 i4 e4])) wn) 5 #[true, true, true, true, true, false, true, false, true, false, false, false] ?_ ?_
  · try dsimp only [Act.put]
    try simp only [List.setIfInBounds_toArray, List.set_cons_zero, List.set_cons_succ]
    intro wn g6 g8 B1 i1 e1 B2 i2 e2 L1 L2 B3 i3 e3 B4 i4 e4 L3 L4 HBS HK6 f6 HK8 f8 d6_8 HM1 HN1 HM3 HN3
    have HBS := Lib.hid HBS
    have HK6 := Lib.hid HK6
    have HK8 := Lib.hid HK8
    have HM1 := Lib.hid HM1
    have HN1 := Lib.hid HN1
    have HM3 := Lib.hid HM3
    have HN3 := Lib.hid HN3
    refine wpAnyH_ready (rs := [5, 7]) (by kernel_rfl) (by simp) (AllReadyH.cons (op_of rfl) (fun K hK => ?_) (AllReadyH.cons (op_of rfl) (fun K hK => ?_) AllReadyH.nil))
    · skip
      go_simp
      refine (in4_b A5 A6 X5 X6 n5 c5 n6 c6 _ HL5.out HL6.out ((HR5.out.below HBS.out (Nat.le_refl _)).more HBS.out.size) ((HR6.out.below HBS.out (Nat.le_refl _)).more HBS.out.size) HD5.out HD6.out (by omega) (by omega)).mono ?_
      rintro en wn ⟨B5, i5, e5, B6, i6, e6, rfl, ⟨L5, hl1, hx1⟩, ⟨L6, hl2, hx2⟩, hb⟩
      clear hl1 hl2
      have HBS := Lib.hid (HBS.out.trans (hb.mono HBS.out.size))
      have HK6 := Lib.hid (HK6.out.below hb HK6.out.lt)
      have HK8 := Lib.hid (HK8.out.below hb HK8.out.lt)
      have HM1 := Lib.hid (HM1.out.below hb)
      have HN1 := Lib.hid (HN1.out.below hb)
      have HM3 := Lib.hid (HM3.out.below hb)
      have HN3 := Lib.hid (HN3.out.below hb)
      have HM5 := Lib.hid hx1
      have HN5 := Lib.hid hx2
      clear hx1 hx2 hb
      refine hK.out _ _ HBS.out (fun hHeld => ?_)
      clear hK K
      try dsimp only [Act.put]
      try simp only [List.setIfInBounds_toArray, List.set_cons_zero, List.set_cons_succ]
      exact K_1_3_5_6_8.out _ _ _ _ _ _ _ _ _ _ _ _ _ _ _ _ _ _ _ _ _ _ _ _ _ _ _ HBS.out HK6.out f6 HK8.out f8 d6_8 HM1.out HN1.out HM3.out HN3.out HM5.out HN5.out
    · skip
      go_simp
      have hk := qbox wn
      have hb := b1 wn (.cells #[.slice none 0 0, .slice none 0 0] 32)
      obtain ⟨g7, hg7⟩ : ∃ g, wn.heap.size = g := ⟨_, rfl⟩
      have o6 : g6 < wn.heap.size := HK6.out.lt
      rw [hg7] at o6
      have d6_7 : g6 ≠ g7 := by omega
      clear o6
      have o8 : g8 < wn.heap.size := HK8.out.lt
      rw [hg7] at o8
      have d7_8 : g7 ≠ g8 := by omega
      clear o8
      have f7 : wc.heap.size ≤ wn.heap.size := HBS.out.size
      rw [hg7] at f7
      have HBS := Lib.hid (HBS.out.trans (hb.mono HBS.out.size))
      have HK6 := Lib.hid (HK6.out.below hb HK6.out.lt)
      have HK8 := Lib.hid (HK8.out.below hb HK8.out.lt)
      have HM1 := Lib.hid (HM1.out.below hb)
      have HN1 := Lib.hid (HN1.out.below hb)
      have HM3 := Lib.hid (HM3.out.below hb)
      have HN3 := Lib.hid (HN3.out.below hb)
      obtain ⟨wn, hwm⟩ : ∃ W, wn.alloc (.cells #[.slice none 0 0, .slice none 0 0] 32) = W := ⟨_, rfl⟩
      rw [hwm] at hk HBS HK6 HK8 HM1 HN1 HM3 HN3
      rw [hg7] at hk ⊢
      rw [hwm]
      have HK7 := Lib.hid hk
      clear hk hb hg7 hwm
      refine hK.out _ _ HBS.out (fun hHeld => ?_)
      clear hK K
      try dsimp only [Act.put]
      try simp only [List.setIfInBounds_toArray, List.set_cons_zero, List.set_cons_succ]
      exact K_1_3_6_7_8.out _ _ _ _ _ _ _ _ _ _ _ _ _ _ _ _ _ _ _ _ HBS.out HK6.out f6 HK7.out f7 HK8.out f8 d6_7 d6_8 d7_8 HM1.out HN1.out HM3.out HN3.out
  intro key
  try dsimp only [Act.put] at key
  try simp only [List.setIfInBounds_toArray, List.set_cons_zero, List.set_cons_succ] at key
  have K_1_3_6_8 := Lib.hid key
  clear key
  refine memoH (fun a G => ∀ (wn : World) (g7 : Nat) (g8 : Nat) (B1 : Option Addr) (i1 e1 : Nat) (B2 : Option Addr) (i2 e2 L1 L2 : Nat) (B3 : Option Addr) (i3 e3 : Nat) (B4 : Option Addr) (i4 e4 L3 L4 : Nat), (Below wc.heap.size wc wn) → (Blk wn g7 32 #[.slice none 0 0, .slice none 0 0]) → (wc.heap.size ≤ g7) → (Blk wn g8 32 #[.slice none 0 0, .slice none 0 0]) → (wc.heap.size ≤ g8) → (g7 ≠ g8) → (Num wn L1 (.agg #[.slice B1 i1 e1]) (U X1)) → (Num wn L2 (.agg #[.slice B2 i2 e2]) (U X2)) → (Num wn L3 (.agg #[.slice B3 i3 e3]) (U X3)) → (Num wn L4 (.agg #[.slice B4 i4 e4]) (U X4)) → G ((((a.put (some 8) (.pointer (some ⟨g7, 0, none⟩))).put (some 9) (.pointer (some ⟨g8, 0, none⟩))).put (some 46) (.agg #[.slice B1 i1 e1, .slice B2 i2 e2])).put (some 48) (.agg #[.slice B3 i3 e3, .slice B4 i4 e4])) wn) 5 #[true, true, true, true, true, false, false, true, true, false, false, false] ?_ ?_
  · try dsimp only [Act.put]
    try simp only [List.setIfInBounds_toArray, List.set_cons_zero, List.set_cons_succ]
    intro wn g7 g8 B1 i1 e1 B2 i2 e2 L1 L2 B3 i3 e3 B4 i4 e4 L3 L4 HBS HK7 f7 HK8 f8 d7_8 HM1 HN1 HM3 HN3
    have HBS := Lib.hid HBS
    have HK7 := Lib.hid HK7
    have HK8 := Lib.hid HK8
    have HM1 := Lib.hid HM1
    have HN1 := Lib.hid HN1
    have HM3 := Lib.hid HM3
    have HN3 := Lib.hid HN3
    refine wpAnyH_ready (rs := [5, 6]) (by kernel_rfl) (by simp) (AllReadyH.cons (op_of rfl) (fun K hK => ?_) (AllReadyH.cons (op_of rfl) (fun K hK => ?_) AllReadyH.nil))
    · skip
      go_simp
      refine (in4_b A5 A6 X5 X6 n5 c5 n6 c6 _ HL5.out HL6.out ((HR5.out.below HBS.out (Nat.le_refl _)).more HBS.out.size) ((HR6.out.below HBS.out (Nat.le_refl _)).more HBS.out.size) HD5.out HD6.out (by omega) (by omega)).mono ?_
      rintro en wn ⟨B5, i5, e5, B6, i6, e6, rfl, ⟨L5, hl1, hx1⟩, ⟨L6, hl2, hx2⟩, hb⟩
      clear hl1 hl2
      have HBS := Lib.hid (HBS.out.trans (hb.mono HBS.out.size))
      have HK7 := Lib.hid (HK7.out.below hb HK7.out.lt)
      have HK8 := Lib.hid (HK8.out.below hb HK8.out.lt)
      have HM1 := Lib.hid (HM1.out.below hb)
      have HN1 := Lib.hid (HN1.out.below hb)
      have HM3 := Lib.hid (HM3.out.below hb)
      have HN3 := Lib.hid (HN3.out.below hb)
      have HM5 := Lib.hid hx1
      have HN5 := Lib.hid hx2
      clear hx1 hx2 hb
      refine hK.out _ _ HBS.out (fun hHeld => ?_)
      clear hK K
      try dsimp only [Act.put]
      try simp only [List.setIfInBounds_toArray, List.set_cons_zero, List.set_cons_succ]
      exact K_1_3_5_7_8.out _ _ _ _ _ _ _ _ _ _ _ _ _ _ _ _ _ _ _ _ _ _ _ _ _ _ _ HBS.out HK7.out f7 HK8.out f8 d7_8 HM1.out HN1.out HM3.out HN3.out HM5.out HN5.out
    · skip
      go_simp
      have hk := qbox wn
      have hb := b1 wn (.cells #[.slice none 0 0, .slice none 0 0] 32)
      obtain ⟨g6, hg6⟩ : ∃ g, wn.heap.size = g := ⟨_, rfl⟩
      have o7 : g7 < wn.heap.size := HK7.out.lt
      rw [hg6] at o7
      have d6_7 : g6 ≠ g7 := by omega
      clear o7
      have o8 : g8 < wn.heap.size := HK8.out.lt
      rw [hg6] at o8
      have d6_8 : g6 ≠ g8 := by omega
      clear o8
      have f6 : wc.heap.size ≤ wn.heap.size := HBS.out.size
      rw [hg6] at f6
      have HBS := Lib.hid (HBS.out.trans (hb.mono HBS.out.size))
      have HK7 := Lib.hid (HK7.out.below hb HK7.out.lt)
      have HK8 := Lib.hid (HK8.out.below hb HK8.out.lt)
      have HM1 := Lib.hid (HM1.out.below hb)
      have HN1 := Lib.hid (HN1.out.below hb)
      have HM3 := Lib.hid (HM3.out.below hb)
      have HN3 := Lib.hid (HN3.out.below hb)
      obtain ⟨wn, hwm⟩ : ∃ W, wn.alloc (.cells #[.slice none 0 0, .slice none 0 0] 32) = W := ⟨_, rfl⟩
      rw [hwm] at hk HBS HK7 HK8 HM1 HN1 HM3 HN3
      rw [hg6] at hk ⊢
      rw [hwm]
      have HK6 := Lib.hid hk
      clear hk hb hg6 hwm
      refine hK.out _ _ HBS.out (fun hHeld => ?_)
      clear hK K
      try dsimp only [Act.put]
      try simp only [List.setIfInBounds_toArray, List.set_cons_zero, List.set_cons_succ]
      exact K_1_3_6_7_8.out _ _ _ _ _ _ _ _ _ _ _ _ _ _ _ _ _ _ _ _ HBS.out HK6.out f6 HK7.out f7 HK8.out f8 d6_7 d6_8 d7_8 HM1.out HN1.out HM3.out HN3.out
  intro key
  try dsimp only [Act.put] at key
  try simp only [List.setIfInBounds_toArray, List.set_cons_zero, List.set_cons_succ] at key
  have K_1_3_7_8 := Lib.hid key
  clear key
  refine memoH (fun a G => ∀ (wn : World) (g6 : Nat) (B1 : Option Addr) (i1 e1 : Nat) (B2 : Option Addr) (i2 e2 L1 L2 : Nat) (B3 : Option Addr) (i3 e3 : Nat) (B4 : Option Addr) (i4 e4 L3 L4 : Nat) (B5 : Option Addr) (i5 e5 : Nat) (B6 : Option Addr) (i6 e6 L5 L6 : Nat), (Below wc.heap.size wc wn) → (Blk wn g6 32 #[.slice none 0 0, .slice none 0 0]) → (wc.heap.size ≤ g6) → (Num wn L1 (.agg #[.slice B1 i1 e1]) (U X1)) → (Num wn L2 (.agg #[.slice B2 i2 e2]) (U X2)) → (Num wn L3 (.agg #[.slice B3 i3 e3]) (U X3)) → (Num wn L4 (.agg #[.slice B4 i4 e4]) (U X4)) → (Num wn L5 (.agg #[.slice B5 i5 e5]) (U X5)) → (Num wn L6 (.agg #[.slice B6 i6 e6]) (U X6)) → G ((((a.put (some 7) (.pointer (some ⟨g6, 0, none⟩))).put (some 46) (.agg #[.slice B1 i1 e1, .slice B2 i2 e2])).put (some 48) (.agg #[.slice B3 i3 e3, .slice B4 i4 e4])).put (some 50) (.agg #[.slice B5 i5 e5, .slice B6 i6 e6])) wn) 5 #[true, true, true, true, true, true, true, false, false, false, false, false] ?_ ?_
  · try dsimp only [Act.put]
    try simp only [List.setIfInBounds_toArray, List.set_cons_zero, List.set_cons_succ]
    intro wn g6 B1 i1 e1 B2 i2 e2 L1 L2 B3 i3 e3 B4 i4 e4 L3 L4 B5 i5 e5 B6 i6 e6 L5 L6 HBS HK6 f6 HM1 HN1 HM3 HN3 HM5 HN5
    have HBS := Lib.hid HBS
    have HK6 := Lib.hid HK6
    have HM1 := Lib.hid HM1
    have HN1 := Lib.hid HN1
    have HM3 := Lib.hid HM3
    have HN3 := Lib.hid HN3
    have HM5 := Lib.hid HM5
    have HN5 := Lib.hid HN5
    refine wpAnyH_ready (rs := [7, 8]) (by kernel_rfl) (by simp) (AllReadyH.cons (op_of rfl) (fun K hK => ?_) (AllReadyH.cons (op_of rfl) (fun K hK => ?_) AllReadyH.nil))
    · skip
      go_simp
      have hk := qbox wn
      have hb := b1 wn (.cells #[.slice none 0 0, .slice none 0 0] 32)
      obtain ⟨g7, hg7⟩ : ∃ g, wn.heap.size = g := ⟨_, rfl⟩
      have o6 : g6 < wn.heap.size := HK6.out.lt
      rw [hg7] at o6
      have d6_7 : g6 ≠ g7 := by omega
      clear o6
      have f7 : wc.heap.size ≤ wn.heap.size := HBS.out.size
      rw [hg7] at f7
      have HBS := Lib.hid (HBS.out.trans (hb.mono HBS.out.size))
      have HK6 := Lib.hid (HK6.out.below hb HK6.out.lt)
      have HM1 := Lib.hid (HM1.out.below hb)
      have HN1 := Lib.hid (HN1.out.below hb)
      have HM3 := Lib.hid (HM3.out.below hb)
      have HN3 := Lib.hid (HN3.out.below hb)
      have HM5 := Lib.hid (HM5.out.below hb)
      have HN5 := Lib.hid (HN5.out.below hb)
      obtain ⟨wn, hwm⟩ : ∃ W, wn.alloc (.cells #[.slice none 0 0, .slice none 0 0] 32) = W := ⟨_, rfl⟩
      rw [hwm] at hk HBS HK6 HM1 HN1 HM3 HN3 HM5 HN5
      rw [hg7] at hk ⊢
      rw [hwm]
      have HK7 := Lib.hid hk
      clear hk hb hg7 hwm
      refine hK.out _ _ HBS.out (fun hHeld => ?_)
      clear hK K
      try dsimp only [Act.put]
      try simp only [List.setIfInBounds_toArray, List.set_cons_zero, List.set_cons_succ]
      exact K_1_3_5_6_7.out _ _ _ _ _ _ _ _ _ _ _ _ _ _ _ _ _ _ _ _ _ _ _ _ _ _ _ HBS.out HK6.out f6 HK7.out f7 d6_7 HM1.out HN1.out HM3.out HN3.out HM5.out HN5.out
    · skip
      go_simp
      have hk := qbox wn
      have hb := b1 wn (.cells #[.slice none 0 0, .slice none 0 0] 32)
      obtain ⟨g8, hg8⟩ : ∃ g, wn.heap.size = g := ⟨_, rfl⟩
      have o6 : g6 < wn.heap.size := HK6.out.lt
      rw [hg8] at o6
      have d6_8 : g6 ≠ g8 := by omega
      clear o6
      have f8 : wc.heap.size ≤ wn.heap.size := HBS.out.size
      rw [hg8] at f8
      have HBS := Lib.hid (HBS.out.trans (hb.mono HBS.out.size))
      have HK6 := Lib.hid (HK6.out.below hb HK6.out.lt)
      have HM1 := Lib.hid (HM1.out.below hb)
      have HN1 := Lib.hid (HN1.out.below hb)
      have HM3 := Lib.hid (HM3.out.below hb)
      have HN3 := Lib.hid (HN3.out.below hb)
      have HM5 := Lib.hid (HM5.out.below hb)
      have HN5 := Lib.hid (HN5.out.below hb)
      obtain ⟨wn, hwm⟩ : ∃ W, wn.alloc (.cells #[.slice none 0 0, .slice none 0 0] 32) = W := ⟨_, rfl⟩
      rw [hwm] at hk HBS HK6 HM1 HN1 HM3 HN3 HM5 HN5
      rw [hg8] at hk ⊢
      rw [hwm]
      have HK8 := Lib.hid hk
      clear hk hb hg8 hwm
      refine hK.out _ _ HBS.out (fun hHeld => ?_)
      clear hK K
      try dsimp only [Act.put]
      try simp only [List.setIfInBounds_toArray, List.set_cons_zero, List.set_cons_succ]
      exact K_1_3_5_6_8.out _ _ _ _ _ _ _ _ _ _ _ _ _ _ _ _ _ _ _ _ _ _ _ _ _ _ _ HBS.out HK6.out f6 HK8.out f8 d6_8 HM1.out HN1.out HM3.out HN3.out HM5.out HN5.out
  intro key
  try dsimp only [Act.put] at key
  try simp only [List.setIfInBounds_toArray, List.set_cons_zero, List.set_cons_succ] at key
  have K_1_3_5_6 := Lib.hid key
  clear key
  refine memoH (fun a G => ∀ (wn : World) (g7 : Nat) (B1 : Option Addr) (i1 e1 : Nat) (B2 : Option Addr) (i2 e2 L1 L2 : Nat) (B3 : Option Addr) (i3 e3 : Nat) (B4 : Option Addr) (i4 e4 L3 L4 : Nat) (B5 : Option Addr) (i5 e5 : Nat) (B6 : Option Addr) (i6 e6 L5 L6 : Nat), (Below wc.heap.size wc wn) → (Blk wn g7 32 #[.slice none 0 0, .slice none 0 0]) → (wc.heap.size ≤ g7) → (Num wn L1 (.agg #[.slice B1 i1 e1]) (U X1)) → (Num wn L2 (.agg #[.slice B2 i2 e2]) (U X2)) → (Num wn L3 (.agg #[.slice B3 i3 e3]) (U X3)) → (Num wn L4 (.agg #[.slice B4 i4 e4]) (U X4)) → (Num wn L5 (.agg #[.slice B5 i5 e5]) (U X5)) → (Num wn L6 (.agg #[.slice B6 i6 e6]) (U X6)) → G ((((a.put (some 8) (.pointer (some ⟨g7, 0, none⟩))).put (some 46) (.agg #[.slice B1 i1 e1, .slice B2 i2 e2])).put (some 48) (.agg #[.slice B3 i3 e3, .slice B4 i4 e4])).put (some 50) (.agg #[.slice B5 i5 e5, .slice B6 i6 e6])) wn) 5 #[true, true, true, true, true, true, false, true, false, false, false, false] ?_ ?_
  · try dsimp only [Act.put]
    try simp only [List.setIfInBounds_toArray, List.set_cons_zero, List.set_cons_succ]
    intro wn g7 B1 i1 e1 B2 i2 e2 L1 L2 B3 i3 e3 B4 i4 e4 L3 L4 B5 i5 e5 B6 i6 e6 L5 L6 HBS HK7 f7 HM1 HN1 HM3 HN3 HM5 HN5
    have HBS := Lib.hid HBS
    have HK7 := Lib.hid HK7
    have HM1 := Lib.hid HM1
    have HN1 := Lib.hid HN1
    have HM3 := Lib.hid HM3
    have HN3 := Lib.hid HN3
    have HM5 := Lib.hid HM5
    have HN5 := Lib.hid HN5
    refine wpAnyH_ready (rs := [6, 8]) (by kernel_rfl) (by simp) (AllReadyH.cons (op_of rfl) (fun K hK => ?_) (AllReadyH.cons (op_of rfl) (fun K hK => ?_) AllReadyH.nil))
    · skip
      go_simp
      have hk := qbox wn
      have hb := b1 wn (.cells #[.slice none 0 0, .slice none 0 0] 32)
      obtain ⟨g6, hg6⟩ : ∃ g, wn.heap.size = g := ⟨_, rfl⟩
      have o7 : g7 < wn.heap.size := HK7.out.lt
      rw [hg6] at o7
      have d6_7 : g6 ≠ g7 := by omega
      clear o7
      have f6 : wc.heap.size ≤ wn.heap.size := HBS.out.size
      rw [hg6] at f6
      have HBS := Lib.hid (HBS.out.trans (hb.mono HBS.out.size))
      have HK7 := Lib.hid (HK7.out.below hb HK7.out.lt)
      have HM1 := Lib.hid (HM1.out.below hb)
      have HN1 := Lib.hid (HN1.out.below hb)
      have HM3 := Lib.hid (HM3.out.below hb)
      have HN3 := Lib.hid (HN3.out.below hb)
      have HM5 := Lib.hid (HM5.out.below hb)
      have HN5 := Lib.hid (HN5.out.below hb)
      obtain ⟨wn, hwm⟩ : ∃ W, wn.alloc (.cells #[.slice none 0 0, .slice none 0 0] 32) = W := ⟨_, rfl⟩
      rw [hwm] at hk HBS HK7 HM1 HN1 HM3 HN3 HM5 HN5
      rw [hg6] at hk ⊢
      rw [hwm]
      have HK6 := Lib.hid hk
      clear hk hb hg6 hwm
      refine hK.out _ _ HBS.out (fun hHeld => ?_)
      clear hK K
      try dsimp only [Act.put]
      try simp only [List.setIfInBounds_toArray, List.set_cons_zero, List.set_cons_succ]
      exact K_1_3_5_6_7.out _ _ _ _ _ _ _ _ _ _ _ _ _ _ _ _ _ _ _ _ _ _ _ _ _ _ _ HBS.out HK6.out f6 HK7.out f7 d6_7 HM1.out HN1.out HM3.out HN3.out HM5.out HN5.out
    · skip
      go_simp
      have hk := qbox wn
      have hb := b1 wn (.cells #[.slice none 0 0, .slice none 0 0] 32)
      obtain ⟨g8, hg8⟩ : ∃ g, wn.heap.size = g := ⟨_, rfl⟩
      have o7 : g7 < wn.heap.size := HK7.out.lt
      rw [hg8] at o7
      have d7_8 : g7 ≠ g8 := by omega
      clear o7
      have f8 : wc.heap.size ≤ wn.heap.size := HBS.out.size
      rw [hg8] at f8
      have HBS := Lib.hid (HBS.out.trans (hb.mono HBS.out.size))
      have HK7 := Lib.hid (HK7.out.below hb HK7.out.lt)
      have HM1 := Lib.hid (HM1.out.below hb)
      have HN1 := Lib.hid (HN1.out.below hb)
      have HM3 := Lib.hid (HM3.out.below hb)
      have HN3 := Lib.hid (HN3.out.below hb)
      have HM5 := Lib.hid (HM5.out.below hb)
      have HN5 := Lib.hid (HN5.out.below hb)
      obtain ⟨wn, hwm⟩ : ∃ W, wn.alloc (.cells #[.slice none 0 0, .slice none 0 0] 32) = W := ⟨_, rfl⟩
      rw [hwm] at hk HBS HK7 HM1 HN1 HM3 HN3 HM5 HN5
      rw [hg8] at hk ⊢
      rw [hwm]
      have HK8 := Lib.hid hk
      clear hk hb hg8 hwm
      refine hK.out _ _ HBS.out (fun hHeld => ?_)
      clear hK K
      try dsimp only [Act.put]
      try simp only [List.setIfInBounds_toArray, List.set_cons_zero, List.set_cons_succ]
      exact K_1_3_5_7_8.out _ _ _ _ _ _ _ _ _ _ _ _ _ _ _ _ _ _ _ _ _ _ _ _ _ _ _ HBS.out HK7.out f7 HK8.out f8 d7_8 HM1.out HN1.out HM3.out HN3.out HM5.out HN5.out
  intro key
  try dsimp only [Act.put] at key
  try simp only [List.setIfInBounds_toArray, List.set_cons_zero, List.set_cons_succ] at key
  have K_1_3_5_7 := Lib.hid key
  clear key
  refine memoH (fun a G => ∀ (wn : World) (g8 : Nat) (B1 : Option Addr) (i1 e1 : Nat) (B2 : Option Addr) (i2 e2 L1 L2 : Nat) (B3 : Option Addr) (i3 e3 : Nat) (B4 : Option Addr) (i4 e4 L3 L4 : Nat) (B5 : Option Addr) (i5 e5 : Nat) (B6 : Option Addr) (i6 e6 L5 L6 : Nat), (Below wc.heap.size wc wn) → (Blk wn g8 32 #[.slice none 0 0, .slice none 0 0]) → (wc.heap.size ≤ g8) → (Num wn L1 (.agg #[.slice B1 i1 e1]) (U X1)) → (Num wn L2 (.agg #[.slice B2 i2 e2]) (U X2)) → (Num wn L3 (.agg #[.slice B3 i3 e3]) (U X3)) → (Num wn L4 (.agg #[.slice B4 i4 e4]) (U X4)) → (Num wn L5 (.agg #[.slice B5 i5 e5]) (U X5)) → (Num wn L6 (.agg #[.slice B6 i6 e6]) (U X6)) → G ((((a.put (some 9) (.pointer (some ⟨g8, 0, none⟩))).put (some 46) (.agg #[.slice B1 i1 e1, .slice B2 i2 e2])).put (some 48) (.agg #[.slice B3 i3 e3, .slice B4 i4 e4])).put (some 50) (.agg #[.slice B5 i5 e5, .slice B6 i6 e6])) wn) 5 #[true, true, true, true, true, true, false, false, true, false, false, false] ?_ ?_
  · try dsimp only [Act.put]
    try simp only [List.setIfInBounds_toArray, List.set_cons_zero, List.set_cons_succ]
    intro wn g8 B1 i1 e1 B2 i2 e2 L1 L2 B3 i3 e3 B4 i4 e4 L3 L4 B5 i5 e5 B6 i6 e6 L5 L6 HBS HK8 f8 HM1 HN1 HM3 HN3 HM5 HN5
    have HBS := Lib.hid HBS
    have HK8 := Lib.hid HK8
    have HM1 := Lib.hid HM1
    have HN1 := Lib.hid HN1
    have HM3 := Lib.hid HM3
    have HN3 := Lib.hid HN3
    have HM5 := Lib.hid HM5
    have HN5 := Lib.hid HN5
    refine wpAnyH_ready (rs := [6, 7]) (by kernel_rfl) (by simp) (AllReadyH.cons (op_of rfl) (fun K hK => ?_) (AllReadyH.cons (op_of rfl) (fun K hK => ?_) AllReadyH.nil))
    · skip
      go_simp
      have hk := qbox wn
      have hb := b1 wn (.cells #[.slice none 0 0, .slice none 0 0] 32)
      obtain ⟨g6, hg6⟩ : ∃ g, wn.heap.size = g := ⟨_, rfl⟩
      have o8 : g8 < wn.heap.size := HK8.out.lt
      rw [hg6] at o8
      have d6_8 : g6 ≠ g8 := by omega
      clear o8
      have f6 : wc.heap.size ≤ wn.heap.size := HBS.out.size
      rw [hg6] at f6
      have HBS := Lib.hid (HBS.out.trans (hb.mono HBS.out.size))
      have HK8 := Lib.hid (HK8.out.below hb HK8.out.lt)
      have HM1 := Lib.hid (HM1.out.below hb)
      have HN1 := Lib.hid (HN1.out.below hb)
      have HM3 := Lib.hid (HM3.out.below hb)
      have HN3 := Lib.hid (HN3.out.below hb)
      have HM5 := Lib.hid (HM5.out.below hb)
      have HN5 := Lib.hid (HN5.out.below hb)
      obtain ⟨wn, hwm⟩ : ∃ W, wn.alloc (.cells #[.slice none 0 0, .slice none 0 0] 32) = W := ⟨_, rfl⟩
      rw [hwm] at hk HBS HK8 HM1 HN1 HM3 HN3 HM5 HN5
      rw [hg6] at hk ⊢
      rw [hwm]
      have HK6 := Lib.hid hk
      clear hk hb hg6 hwm
      refine hK.out _ _ HBS.out (fun hHeld => ?_)
      clear hK K
      try dsimp only [Act.put]
      try simp only [List.setIfInBounds_toArray, List.set_cons_zero, List.set_cons_succ]
      exact K_1_3_5_6_8.out _ _ _ _ _ _ _ _ _ _ _ _ _ _ _ _ _ _ _ _ _ _ _ _ _ _ _ HBS.out HK6.out f6 HK8.out f8 d6_8 HM1.out HN1.out HM3.out HN3.out HM5.out HN5.out
    · skip
      go_simp
      have hk := qbox wn
      have hb := b1 wn (.cells #[.slice none 0 0, .slice none 0 0] 32)
      obtain ⟨g7, hg7⟩ : ∃ g, wn.heap.size = g := ⟨_, rfl⟩
      have o8 : g8 < wn.heap.size := HK8.out.lt
      rw [hg7] at o8
      have d7_8 : g7 ≠ g8 := by omega
      clear o8
      have f7 : wc.heap.size ≤ wn.heap.size := HBS.out.size
      rw [hg7] at f7
      have HBS := Lib.hid (HBS.out.trans (hb.mono HBS.out.size))
      have HK8 := Lib.hid (HK8.out.below hb HK8.out.lt)
      have HM1 := Lib.hid (HM1.out.below hb)
      have HN1 := Lib.hid (HN1.out.below hb)
      have HM3 := Lib.hid (HM3.out.below hb)
      have HN3 := Lib.hid (HN3.out.below hb)
      have HM5 := Lib.hid (HM5.out.below hb)
      have HN5 := Lib.hid (HN5.out.below hb)
      obtain ⟨wn, hwm⟩ : ∃ W, wn.alloc (.cells #[.slice none 0 0, .slice none 0 0] 32) = W := ⟨_, rfl⟩
      rw [hwm] at hk HBS HK8 HM1 HN1 HM3 HN3 HM5 HN5
      rw [hg7] at hk ⊢
      rw [hwm]
      have HK7 := Lib.hid hk
      clear hk hb hg7 hwm
      refine hK.out _ _ HBS.out (fun hHeld => ?_)
      clear hK K
      try dsimp only [Act.put]
      try simp only [List.setIfInBounds_toArray, List.set_cons_zero, List.set_cons_succ]
      exact K_1_3_5_7_8.out _ _ _ _ _ _ _ _ _ _ _ _ _ _ _ _ _ _ _ _ _ _ _ _ _ _ _ HBS.out HK7.out f7 HK8.out f8 d7_8 HM1.out HN1.out HM3.out HN3.out HM5.out HN5.out
  intro key
  try dsimp only [Act.put] at key
  try simp only [List.setIfInBounds_toArray, List.set_cons_zero, List.set_cons_succ] at key
  have K_1_3_5_8 := Lib.hid key
  clear key
  refine memoH (fun a G => ∀ (wn : World) (g6 : Nat) (g7 : Nat) (g8 : Nat), (Below wc.heap.size wc wn) → (Blk wn g6 32 #[.slice none 0 0, .slice none 0 0]) → (wc.heap.size ≤ g6) → (Blk wn g7 32 #[.slice none 0 0, .slice none 0 0]) → (wc.heap.size ≤ g7) → (Blk wn g8 32 #[.slice none 0 0, .slice none 0 0]) → (wc.heap.size ≤ g8) → (g6 ≠ g7) → (g6 ≠ g8) → (g7 ≠ g8) → G (((a.put (some 7) (.pointer (some ⟨g6, 0, none⟩))).put (some 8) (.pointer (some ⟨g7, 0, none⟩))).put (some 9) (.pointer (some ⟨g8, 0, none⟩))) wn) 6 #[true, false, true, false, true, false, true, true, true, false, false, false] ?_ ?_
  · try dsimp only [Act.put]
    try simp only [List.setIfInBounds_toArray, List.set_cons_zero, List.set_cons_succ]
    intro wn g6 g7 g8 HBS HK6 f6 HK7 f7 HK8 f8 d6_7 d6_8 d7_8
    have HBS := Lib.hid HBS
    have HK6 := Lib.hid HK6
    have HK7 := Lib.hid HK7
    have HK8 := Lib.hid HK8
    refine wpAnyH_ready (rs := [1]) (by kernel_rfl) (by simp) (AllReadyH.cons (op_of rfl) (fun K hK => ?_) AllReadyH.nil)
    go_simp
    refine (in4_b A1 A2 X1 X2 n1 c1 n2 c2 _ HL1.out HL2.out ((HR1.out.below HBS.out (Nat.le_refl _)).more HBS.out.size) ((HR2.out.below HBS.out (Nat.le_refl _)).more HBS.out.size) HD1.out HD2.out (by omega) (by omega)).mono ?_
    rintro en wn ⟨B1, i1, e1, B2, i2, e2, rfl, ⟨L1, hl1, hx1⟩, ⟨L2, hl2, hx2⟩, hb⟩
    clear hl1 hl2
    have HBS := Lib.hid (HBS.out.trans (hb.mono HBS.out.size))
    have HK6 := Lib.hid (HK6.out.below hb HK6.out.lt)
    have HK7 := Lib.hid (HK7.out.below hb HK7.out.lt)
    have HK8 := Lib.hid (HK8.out.below hb HK8.out.lt)
    have HM1 := Lib.hid hx1
    have HN1 := Lib.hid hx2
    clear hx1 hx2 hb
    refine hK.out _ _ HBS.out (fun hHeld => ?_)
    clear hK K
    try dsimp only [Act.put]
    try simp only [List.setIfInBounds_toArray, List.set_cons_zero, List.set_cons_succ]
    exact K_1_6_7_8.out _ _ _ _ _ _ _ _ _ _ _ _ HBS.out HK6.out f6 HK7.out f7 HK8.out f8 d6_7 d6_8 d7_8 HM1.out HN1.out
  intro key
  try dsimp only [Act.put] at key
  try simp only [List.setIfInBounds_toArray, List.set_cons_zero, List.set_cons_succ] at key
  have K_6_7_8 := Lib.hid key
  clear key
  refine memoH (fun a G => ∀ (wn : World) (g6 : Nat) (g7 : Nat) (B1 : Option Addr) (i1 e1 : Nat) (B2 : Option Addr) (i2 e2 L1 L2 : Nat), (Below wc.heap.size wc wn) → (Blk wn g6 32 #[.slice none 0 0, .slice none 0 0]) → (wc.heap.size ≤ g6) → (Blk wn g7 32 #[.slice none 0 0, .slice none 0 0]) → (wc.heap.size ≤ g7) → (g6 ≠ g7) → (Num wn L1 (.agg #[.slice B1 i1 e1]) (U X1)) → (Num wn L2 (.agg #[.slice B2 i2 e2]) (U X2)) → G (((a.put (some 7) (.pointer (some ⟨g6, 0, none⟩))).put (some 8) (.pointer (some ⟨g7, 0, none⟩))).put (some 46) (.agg #[.slice B1 i1 e1, .slice B2 i2 e2])) wn) 6 #[true, true, true, false, true, false, true, true, false, false, false, false] ?_ ?_
  · try dsimp only [Act.put]
    try simp only [List.setIfInBounds_toArray, List.set_cons_zero, List.set_cons_succ]
    intro wn g6 g7 B1 i1 e1 B2 i2 e2 L1 L2 HBS HK6 f6 HK7 f7 d6_7 HM1 HN1
    have HBS := Lib.hid HBS
    have HK6 := Lib.hid HK6
    have HK7 := Lib.hid HK7
    have HM1 := Lib.hid HM1
    have HN1 := Lib.hid HN1
    refine wpAnyH_ready (rs := [3, 8]) (by kernel_rfl) (by simp) (AllReadyH.cons (op_of rfl) (fun K hK => ?_) (AllReadyH.cons (op_of rfl) (fun K hK => ?_) AllReadyH.nil))
    · skip
      go_simp
      refine (in4_b A3 A4 X3 X4 n3 c3 n4 c4 _ HL3.out HL4.out ((HR3.out.below HBS.out (Nat.le_refl _)).more HBS.out.size) ((HR4.out.below HBS.out (Nat.le_refl _)).more HBS.out.size) HD3.out HD4.out (by omega) (by omega)).mono ?_
      rintro en wn ⟨B3, i3, e3, B4, i4, e4, rfl, ⟨L3, hl1, hx1⟩, ⟨L4, hl2, hx2⟩, hb⟩
      clear hl1 hl2
      have HBS := Lib.hid (HBS.out.trans (hb.mono HBS.out.size))
      have HK6 := Lib.hid (HK6.out.below hb HK6.out.lt)
      have HK7 := Lib.hid (HK7.out.below hb HK7.out.lt)
      have HM1 := Lib.hid (HM1.out.below hb)
      have HN1 := Lib.hid (HN1.out.below hb)
      have HM3 := Lib.hid hx1
      have HN3 := Lib.hid hx2
      clear hx1 hx2 hb
      refine hK.out _ _ HBS.out (fun hHeld => ?_)
      clear hK K
      try dsimp only [Act.put]
      try simp only [List.setIfInBounds_toArray, List.set_cons_zero, List.set_cons_succ]
      exact K_1_3_6_7.out _ _ _ _ _ _ _ _ _ _ _ _ _ _ _ _ _ _ _ HBS.out HK6.out f6 HK7.out f7 d6_7 HM1.out HN1.out HM3.out HN3.out
    · skip
      go_simp
      have hk := qbox wn
      have hb := b1 wn (.cells #[.slice none 0 0, .slice none 0 0] 32)
      obtain ⟨g8, hg8⟩ : ∃ g, wn.heap.size = g := ⟨_, rfl⟩
      have o6 : g6 < wn.heap.size := HK6.out.lt
      rw [hg8] at o6
      have d6_8 : g6 ≠ g8 := by omega
      clear o6
      have o7 : g7 < wn.heap.size := HK7.out.lt
      rw [hg8] at o7
      have d7_8 : g7 ≠ g8 := by omega
      clear o7
      have f8 : wc.heap.size ≤ wn.heap.size := HBS.out.size
      rw [hg8] at f8
      have HBS := Lib.hid (HBS.out.trans (hb.mono HBS.out.size))
      have HK6 := Lib.hid (HK6.out.below hb HK6.out.lt)
      have HK7 := Lib.hid (HK7.out.below hb HK7.out.lt)
      have HM1 := Lib.hid (HM1.out.below hb)
      have HN1 := Lib.hid (HN1.out.below hb)
      obtain ⟨wn, hwm⟩ : ∃ W, wn.alloc (.cells #[.slice none 0 0, .slice none 0 0] 32) = W := ⟨_, rfl⟩
      rw [hwm] at hk HBS HK6 HK7 HM1 HN1
      rw [hg8] at hk ⊢
      rw [hwm]
      have HK8 := Lib.hid hk
      clear hk hb hg8 hwm
      refine hK.out _ _ HBS.out (fun hHeld => ?_)
      clear hK K
      try dsimp only [Act.put]
      try simp only [List.setIfInBounds_toArray, List.set_cons_zero, List.set_cons_succ]
      exact K_1_6_7_8.out _ _ _ _ _ _ _ _ _ _ _ _ HBS.out HK6.out f6 HK7.out f7 HK8.out f8 d6_7 d6_8 d7_8 HM1.out HN1.out
  intro key
  try dsimp only [Act.put] at key
  try simp only [List.setIfInBounds_toArray, List.set_cons_zero, List.set_cons_succ] at key
  have K_1_6_7 := Lib.hid key
  clear key
  refine memoH (fun a G => ∀ (wn : World) (g6 : Nat) (g8 : Nat) (B1 : Option Addr) (i1 e1 : Nat) (B2 : Option Addr) (i2 e2 L1 L2 : Nat), (Below wc.heap.size wc wn) → (Blk wn g6 32 #[.slice none 0 0, .slice none 0 0]) → (wc.heap.size ≤ g6) → (Blk wn g8 32 #[.slice none 0 0, .slice none 0 0]) → (wc.heap.size ≤ g8) → (g6 ≠ g8) → (Num wn L1 (.agg #[.slice B1 i1 e1]) (U X1)) → (Num wn L2 (.agg #[.slice B2 i2 e2]) (U X2)) → G (((a.put (some 7) (.pointer (some ⟨g6, 0, none⟩))).put (some 9) (.pointer (some ⟨g8, 0, none⟩))).put (some 46) (.agg #[.slice B1 i1 e1, .slice B2 i2 e2])) wn) 6 #[true, true, true, false, true, false, true, false, true, false, false, false] ?_ ?_
  · try dsimp only [Act.put]
    try simp only [List.setIfInBounds_toArray, List.set_cons_zero, List.set_cons_succ]
    intro wn g6 g8 B1 i1 e1 B2 i2 e2 L1 L2 HBS HK6 f6 HK8 f8 d6_8 HM1 HN1
    have HBS := Lib.hid HBS
    have HK6 := Lib.hid HK6
    have HK8 := Lib.hid HK8
    have HM1 := Lib.hid HM1
    have HN1 := Lib.hid HN1
    refine wpAnyH_ready (rs := [3, 7]) (by kernel_rfl) (by simp) (AllReadyH.cons (op_of rfl) (fun K hK => ?_) (AllReadyH.cons (op_of rfl) (fun K hK => ?_) AllReadyH.nil))
    · skip
      go_simp
      refine (in4_b A3 A4 X3 X4 n3 c3 n4 c4 _ HL3.out HL4.out ((HR3.out.below HBS.out (Nat.le_refl _)).more HBS.out.size) ((HR4.out.below HBS.out (Nat.le_refl _)).more HBS.out.size) HD3.out HD4.out (by omega) (by omega)).mono ?_
      rintro en wn ⟨B3, i3, e3, B4, i4, e4, rfl, ⟨L3, hl1, hx1⟩, ⟨L4, hl2, hx2⟩, hb⟩
      clear hl1 hl2
      have HBS := Lib.hid (HBS.out.trans (hb.mono HBS.out.size))
      have HK6 := Lib.hid (HK6.out.below hb HK6.out.lt)
      have HK8 := Lib.hid (HK8.out.below hb HK8.out.lt)
      have HM1 := Lib.hid (HM1.out.below hb)
      have HN1 := Lib.hid (HN1.out.below hb)
      have HM3 := Lib.hid hx1
      have HN3 := Lib.hid hx2
      clear hx1 hx2 hb
      refine hK.out _ _ HBS.out (fun hHeld => ?_)
      clear hK K
      try dsimp only [Act.put]
      try simp only [List.setIfInBounds_toArray, List.set_cons_zero, List.set_cons_succ]
      exact K_1_3_6_8.out _ _ _ _ _ _ _ _ _ _ _ _ _ _ _ _ _ _ _ HBS.out HK6.out f6 HK8.out f8 d6_8 HM1.out HN1.out HM3.out HN3.out
    · skip
      go_simp
      have hk := qbox wn
      have hb := b1 wn (.cells #[.slice none 0 0, .slice none 0 0] 32)
      obtain ⟨g7, hg7⟩ : ∃ g, wn.heap.size = g := ⟨_, rfl⟩
      have o6 : g6 < wn.heap.size := HK6.out.lt
      rw [hg7] at o6
      have d6_7 : g6 ≠ g7 := by omega
      clear o6
      have o8 : g8 < wn.heap.size := HK8.out.lt
      rw [hg7] at o8
      have d7_8 : g7 ≠ g8 := by omega
      clear o8
      have f7 : wc.heap.size ≤ wn.heap.size := HBS.out.size
      rw [hg7] at f7
      have HBS := Lib.hid (HBS.out.trans (hb.mono HBS.out.size))
      have HK6 := Lib.hid (HK6.out.below hb HK6.out.lt)
      have HK8 := Lib.hid (HK8.out.below hb HK8.out.lt)
      have HM1 := Lib.hid (HM1.out.below hb)
      have HN1 := Lib.hid (HN1.out.below hb)
      obtain ⟨wn, hwm⟩ : ∃ W, wn.alloc (.cells #[.slice none 0 0, .slice none 0 0] 32) = W := ⟨_, rfl⟩
      rw [hwm] at hk HBS HK6 HK8 HM1 HN1
      rw [hg7] at hk ⊢
      rw [hwm]
      have HK7 := Lib.hid hk
      clear hk hb hg7 hwm
      refine hK.out _ _ HBS.out (fun hHeld => ?_)
      clear hK K
      try dsimp only [Act.put]
      try simp only [List.setIfInBounds_toArray, List.set_cons_zero, List.set_cons_succ]
      exact K_1_6_7_8.out _ _ _ _ _ _ _ _ _ _ _ _ HBS.out HK6.out f6 HK7.out f7 HK8.out f8 d6_7 d6_8 d7_8 HM1.out HN1.out
  intro key
  try dsimp only [Act.put] at key
  try simp only [List.setIfInBounds_toArray, List.set_cons_zero, List.set_cons_succ] at key
  have K_1_6_8 := Lib.hid key
  clear key
  refine memoH (fun a G => ∀ (wn : World) (g7 : Nat) (g8 : Nat) (B1 : Option Addr) (i1 e1 : Nat) (B2 : Option Addr) (i2 e2 L1 L2 : Nat), (Below wc.heap.size wc wn) → (Blk wn g7 32 #[.slice none 0 0, .slice none 0 0]) → (wc.heap.size ≤ g7) → (Blk wn g8 32 #[.slice none 0 0, .slice none 0 0]) → (wc.heap.size ≤ g8) → (g7 ≠ g8) → (Num wn L1 (.agg #[.slice B1 i1 e1]) (U X1)) → (Num wn L2 (.agg #[.slice B2 i2 e2]) (U X2)) → G (((a.put (some 8) (.pointer (some ⟨g7, 0, none⟩))).put (some 9) (.pointer (some ⟨g8, 0, none⟩))).put (some 46) (.agg #[.slice B1 i1 e1, .slice B2 i2 e2])) wn) 6 #[true, true, true, false, true, false, false, true, true, false, false, false] ?_ ?_
  · try dsimp only [Act.put]
    try simp only [List.setIfInBounds_toArray, List.set_cons_zero, List.set_cons_succ]
    intro wn g7 g8 B1 i1 e1 B2 i2 e2 L1 L2 HBS HK7 f7 HK8 f8 d7_8 HM1 HN1
    have HBS := Lib.hid HBS
    have HK7 := Lib.hid HK7
    have HK8 := Lib.hid HK8
    have HM1 := Lib.hid HM1
    have HN1 := Lib.hid HN1
    refine wpAnyH_ready (rs := [3, 6]) (by kernel_rfl) (by simp) (AllReadyH.cons (op_of rfl) (fun K hK => ?_) (AllReadyH.cons (op_of rfl) (fun K hK => ?_) AllReadyH.nil))
    · skip
      go_simp
      refine (in4_b A3 A4 X3 X4 n3 c3 n4 c4 _ HL3.out HL4.out ((HR3.out.below HBS.out (Nat.le_refl _)).more HBS.out.size) ((HR4.out.below HBS.out (Nat.le_refl _)).more HBS.out.size) HD3.out HD4.out (by omega) (by omega)).mono ?_
      rintro en wn ⟨B3, i3, e3, B4, i4, e4, rfl, ⟨L3, hl1, hx1⟩, ⟨L4, hl2, hx2⟩, hb⟩
      clear hl1 hl2
      have HBS := Lib.hid (HBS.out.trans (hb.mono HBS.out.size))
      have HK7 := Lib.hid (HK7.out.below hb HK7.out.lt)
      have HK8 := Lib.hid (HK8.out.below hb HK8.out.lt)
      have HM1 := Lib.hid (HM1.out.below hb)
      have HN1 := Lib.hid (HN1.out.below hb)
      have HM3 := Lib.hid hx1
      have HN3 := Lib.hid hx2
      clear hx1 hx2 hb
      refine hK.out _ _ HBS.out (fun hHeld => ?_)
      clear hK K
      try dsimp only [Act.put]
      try simp only [List.setIfInBounds_toArray, List.set_cons_zero, List.set_cons_succ]
      exact K_1_3_7_8.out _ _ _ _ _ _ _ _ _ _ _ _ _ _ _ _ _ _ _ HBS.out HK7.out f7 HK8.out f8 d7_8 HM1.out HN1.out HM3.out HN3.out
    · skip
      go_simp
      have hk := qbox wn
      have hb := b1 wn (.cells #[.slice none 0 0, .slice none 0 0] 32)
      obtain ⟨g6, hg6⟩ : ∃ g, wn.heap.size = g := ⟨_, rfl⟩
      have o7 : g7 < wn.heap.size := HK7.out.lt
      rw [hg6] at o7
      have d6_7 : g6 ≠ g7 := by omega
      clear o7
      have o8 : g8 < wn.heap.size := HK8.out.lt
      rw [hg6] at o8
      have d6_8 : g6 ≠ g8 := by omega
      clear o8
      have f6 : wc.heap.size ≤ wn.heap.size := HBS.out.size
      rw [hg6] at f6
      have HBS := Lib.hid (HBS.out.trans (hb.mono HBS.out.size))
      have HK7 := Lib.hid (HK7.out.below hb HK7.out.lt)
      have HK8 := Lib.hid (HK8.out.below hb HK8.out.lt)
      have HM1 := Lib.hid (HM1.out.below hb)
      have HN1 := Lib.hid (HN1.out.below hb)
      obtain ⟨wn, hwm⟩ : ∃ W, wn.alloc (.cells #[.slice none 0 0, .slice none 0 0] 32) = W := ⟨_, rfl⟩
      rw [hwm] at hk HBS HK7 HK8 HM1 HN1
      rw [hg6] at hk ⊢
      rw [hwm]
      have HK6 := Lib.hid hk
      clear hk hb hg6 hwm
      refine hK.out _ _ HBS.out (fun hHeld => ?_)
      clear hK K
      try dsimp only [Act.put]
      try simp only [List.setIfInBounds_toArray, List.set_cons_zero, List.set_cons_succ]
      exact K_1_6_7_8.out _ _ _ _ _ _ _ _ _ _ _ _ HBS.out HK6.out f6 HK7.out f7 HK8.out f8 d6_7 d6_8 d7_8 HM1.out HN1.out
  intro key
  try dsimp only [Act.put] at key
  try simp only [List.setIfInBounds_toArray, List.set_cons_zero, List.set_cons_succ] at key
  have K_1_7_8 := Lib.hid key
  clear key
  refine memoH (fun a G => ∀ (wn : World) (g6 : Nat) (B1 : Option Addr) (i1 e1 : Nat) (B2 : Option Addr) (i2 e2 L1 L2 : Nat) (B3 : Option Addr) (i3 e3 : Nat) (B4 : Option Addr) (i4 e4 L3 L4 : Nat), (Below wc.heap.size wc wn) → (Blk wn g6 32 #[.slice none 0 0, .slice none 0 0]) → (wc.heap.size ≤ g6) → (Num wn L1 (.agg #[.slice B1 i1 e1]) (U X1)) → (Num wn L2 (.agg #[.slice B2 i2 e2]) (U X2)) → (Num wn L3 (.agg #[.slice B3 i3 e3]) (U X3)) → (Num wn L4 (.agg #[.slice B4 i4 e4]) (U X4)) → G (((a.put (some 7) (.pointer (some ⟨g6, 0, none⟩))).put (some 46) (.agg #[.slice B1 i1 e1, .slice B2 i2 e2])).put (some 48) (.agg #[.slice B3 i3 e3, .slice B4 i4 e4])) wn) 6 #[true, true, true, true, true, false, true, false, false, false, false, false] ?_ ?_
  · try dsimp only [Act.put]
    try simp only [List.setIfInBounds_toArray, List.set_cons_zero, List.set_cons_succ]
    intro wn g6 B1 i1 e1 B2 i2 e2 L1 L2 B3 i3 e3 B4 i4 e4 L3 L4 HBS HK6 f6 HM1 HN1 HM3 HN3
    have HBS := Lib.hid HBS
    have HK6 := Lib.hid HK6
    have HM1 := Lib.hid HM1
    have HN1 := Lib.hid HN1
    have HM3 := Lib.hid HM3
    have HN3 := Lib.hid HN3
    refine wpAnyH_ready (rs := [5, 7, 8]) (by kernel_rfl) (by simp) (AllReadyH.cons (op_of rfl) (fun K hK => ?_) (AllReadyH.cons (op_of rfl) (fun K hK => ?_) (AllReadyH.cons (op_of rfl) (fun K hK => ?_) AllReadyH.nil)))
    · skip
      go_simp
      refine (in4_b A5 A6 X5 X6 n5 c5 n6 c6 _ HL5.out HL6.out ((HR5.out.below HBS.out (Nat.le_refl _)).more HBS.out.size) ((HR6.out.below HBS.out (Nat.le_refl _)).more HBS.out.size) HD5.out HD6.out (by omega) (by omega)).mono ?_
      rintro en wn ⟨B5, i5, e5, B6, i6, e6, rfl, ⟨L5, hl1, hx1⟩, ⟨L6, hl2, hx2⟩, hb⟩
      clear hl1 hl2
      have HBS := Lib.hid (HBS.out.trans (hb.mono HBS.out.size))
      have HK6 := Lib.hid (HK6.out.below hb HK6.out.lt)
      have HM1 := Lib.hid (HM1.out.below hb)
      have HN1 := Lib.hid (HN1.out.below hb)
      have HM3 := Lib.hid (HM3.out.below hb)
      have HN3 := Lib.hid (HN3.out.below hb)
      have HM5 := Lib.hid hx1
      have HN5 := Lib.hid hx2
      clear hx1 hx2 hb
      refine hK.out _ _ HBS.out (fun hHeld => ?_)
      clear hK K
      try dsimp only [Act.put]
      try simp only [List.setIfInBounds_toArray, List.set_cons_zero, List.set_cons_succ]
      exact K_1_3_5_6.out _ _ _ _ _ _ _ _ _ _ _ _ _ _ _ _ _ _ _ _ _ _ _ _ _ _ HBS.out HK6.out f6 HM1.out HN1.out HM3.out HN3.out HM5.out HN5.out
    · skip
      go_simp
      have hk := qbox wn
      have hb := b1 wn (.cells #[.slice none 0 0, .slice none 0 0] 32)
      obtain ⟨g7, hg7⟩ : ∃ g, wn.heap.size = g := ⟨_, rfl⟩
      have o6 : g6 < wn.heap.size := HK6.out.lt
      rw [hg7] at o6
      have d6_7 : g6 ≠ g7 := by omega
      clear o6
      have f7 : wc.heap.size ≤ wn.heap.size := HBS.out.size
      rw [hg7] at f7
      have HBS := Lib.hid (HBS.out.trans (hb.mono HBS.out.size))
      have HK6 := Lib.hid (HK6.out.below hb HK6.out.lt)
      have HM1 := Lib.hid (HM1.out.below hb)
      have HN1 := Lib.hid (HN1.out.below hb)
      have HM3 := Lib.hid (HM3.out.below hb)
      have HN3 := Lib.hid (HN3.out.below hb)
      obtain ⟨wn, hwm⟩ : ∃ W, wn.alloc (.cells #[.slice none 0 0, .slice none 0 0] 32) = W := ⟨_, rfl⟩
      rw [hwm] at hk HBS HK6 HM1 HN1 HM3 HN3
      rw [hg7] at hk ⊢
      rw [hwm]
      have HK7 := Lib.hid hk
      clear hk hb hg7 hwm
      refine hK.out _ _ HBS.out (fun hHeld => ?_)
      clear hK K
      try dsimp only [Act.put]
      try simp only [List.setIfInBounds_toArray, List.set_cons_zero, List.set_cons_succ]
      exact K_1_3_6_7.out _ _ _ _ _ _ _ _ _ _ _ _ _ _ _ _ _ _ _ HBS.out HK6.out f6 HK7.out f7 d6_7 HM1.out HN1.out HM3.out HN3.out
    · skip
      go_simp
      have hk := qbox wn
      have hb := b1 wn (.cells #[.slice none 0 0, .slice none 0 0] 32)
      obtain ⟨g8, hg8⟩ : ∃ g, wn.heap.size = g := ⟨_, rfl⟩
      have o6 : g6 < wn.heap.size := HK6.out.lt
      rw [hg8] at o6
      have d6_8 : g6 ≠ g8 := by omega
      clear o6
      have f8 : wc.heap.size ≤ wn.heap.size := HBS.out.size
      rw [hg8] at f8
      have HBS := Lib.hid (HBS.out.trans (hb.mono HBS.out.size))
      have HK6 := Lib.hid (HK6.out.below hb HK6.out.lt)
      have HM1 := Lib.hid (HM1.out.below hb)
      have HN1 := Lib.hid (HN1.out.below hb)
      have HM3 := Lib.hid (HM3.out.below hb)
      have HN3 := Lib.hid (HN3.out.below hb)
      obtain ⟨wn, hwm⟩ : ∃ W, wn.alloc (.cells #[.slice none 0 0, .slice none 0 0] 32) = W := ⟨_, rfl⟩
      rw [hwm] at hk HBS HK6 HM1 HN1 HM3 HN3
      rw [hg8] at hk ⊢
      rw [hwm]
      have HK8 := Lib.hid hk
      clear hk hb hg8 hwm
      refine hK.out _ _ HBS.out (fun hHeld => ?_)
      clear hK K
      try dsimp only [Act.put]
      try simp only [List.setIfInBounds_toArray, List.set_cons_zero, List.set_cons_succ]
      exact K_1_3_6_8.out _ _ _ _ _ _ _ _ _ _ _ _ _ _ _ _ _ _ _ HBS.out HK6.out f6 HK8.out f8 d6_8 HM1.out HN1.out HM3.out HN3.out
  intro key
  try dsimp only [Act.put] at key
  try simp only [List.setIfInBounds_toArray, List.set_cons_zero, List.set_cons_succ] at key
  have K_1_3_6 := Lib.hid key
  clear key
  refine memoH (fun a G => ∀ (wn : World) (g7 : Nat) (B1 : Option Addr) (i1 e1 : Nat) (B2 : Option Addr) (i2 e2 L1 L2 : Nat) (B3 : Option Addr) (i3 e3 : Nat) (B4 : Option Addr) (i4 e4 L3 L4 : Nat), (Below wc.heap.size wc wn) → (Blk wn g7 32 #[.slice none 0 0, .slice none 0 0]) → (wc.heap.size ≤ g7) → (Num wn L1 (.agg #[.slice B1 i1 e1]) (U X1)) → (Num wn L2 (.agg #[.slice B2 i2 e2]) (U X2)) → (Num wn L3 (.agg #[.slice B3 i3 e3]) (U X3)) → (Num wn L4 (.agg #[.slice B4 i4 e4]) (U X4)) → G (((a.put (some 8) (.pointer (some ⟨g7, 0, none⟩))).put (some 46) (.agg #[.slice B1 i1 e1, .slice B2 i2 e2])).put (some 48) (.agg #[.slice B3 i3 e3, .slice B4 i4 e4])) wn) 6 #[true, true, true, true, true, false, false, true, false, false, false, false] ?_ ?_
  · try dsimp only [Act.put]
    try simp only [List.setIfInBounds_toArray, List.set_cons_zero, List.set_cons_succ]
    intro wn g7 B1 i1 e1 B2 i2 e2 L1 L2 B3 i3 e3 B4 i4 e4 L3 L4 HBS HK7 f7 HM1 HN1 HM3 HN3
    have HBS := Lib.hid HBS
    have HK7 := Lib.hid HK7
    have HM1 := Lib.hid HM1
    have HN1 := Lib.hid HN1
    have HM3 := Lib.hid HM3
    have HN3 := Lib.hid HN3
    refine wpAnyH_ready (rs := [5, 6, 8]) (by kernel_rfl) (by simp) (AllReadyH.cons (op_of rfl) (fun K hK => ?_) (AllReadyH.cons (op_of rfl) (fun K hK => ?_) (AllReadyH.cons (op_of rfl) (fun K hK => ?_) AllReadyH.nil)))
    · skip
      go_simp
      refine (in4_b A5 A6 X5 X6 n5 c5 n6 c6 _ HL5.out HL6.out ((HR5.out.below HBS.out (Nat.le_refl _)).more HBS.out.size) ((HR6.out.below HBS.out (Nat.le_refl _)).more HBS.out.size) HD5.out HD6.out (by omega) (by omega)).mono ?_
      rintro en wn ⟨B5, i5, e5, B6, i6, e6, rfl, ⟨L5, hl1, hx1⟩, ⟨L6, hl2, hx2⟩, hb⟩
      clear hl1 hl2
      have HBS := Lib.hid (HBS.out.trans (hb.mono HBS.out.size))
      have HK7 := Lib.hid (HK7.out.below hb HK7.out.lt)
      have HM1 := Lib.hid (HM1.out.below hb)
      have HN1 := Lib.hid (HN1.out.below hb)
      have HM3 := Lib.hid (HM3.out.below hb)
      have HN3 := Lib.hid (HN3.out.below hb)
      have HM5 := Lib.hid hx1
      have HN5 := Lib.hid hx2
      clear hx1 hx2 hb
      refine hK.out _ _ HBS.out (fun hHeld => ?_)
      clear hK K
      try dsimp only [Act.put]
      try simp only [List.setIfInBounds_toArray, List.set_cons_zero, List.set_cons_succ]
      exact K_1_3_5_7.out _ _ _ _ _ _ _ _ _ _ _ _ _ _ _ _ _ _ _ _ _ _ _ _ _ _ HBS.out HK7.out f7 HM1.out HN1.out HM3.out HN3.out HM5.out HN5.out
    · skip
      go_simp
      have hk := qbox wn
      have hb := b1 wn (.cells #[.slice none 0 0, .slice none 0 0] 32)
      obtain ⟨g6, hg6⟩ : ∃ g, wn.heap.size = g := ⟨_, rfl⟩
      have o7 : g7 < wn.heap.size := HK7.out.lt
      rw [hg6] at o7
      have d6_7 : g6 ≠ g7 := by omega
      clear o7
      have f6 : wc.heap.size ≤ wn.heap.size := HBS.out.size
      rw [hg6] at f6
      have HBS := Lib.hid (HBS.out.trans (hb.mono HBS.out.size))
      have HK7 := Lib.hid (HK7.out.below hb HK7.out.lt)
      have HM1 := Lib.hid (HM1.out.below hb)
      have HN1 := Lib.hid (HN1.out.below hb)
      have HM3 := Lib.hid (HM3.out.below hb)
      have HN3 := Lib.hid (HN3.out.below hb)
      obtain ⟨wn, hwm⟩ : ∃ W, wn.alloc (.cells #[.slice none 0 0, .slice none 0 0] 32) = W := ⟨_, rfl⟩
      rw [hwm] at hk HBS HK7 HM1 HN1 HM3 HN3
      rw [hg6] at hk ⊢
      rw [hwm]
      have HK6 := Lib.hid hk
      clear hk hb hg6 hwm
      refine hK.out _ _ HBS.out (fun hHeld => ?_)
      clear hK K
      try dsimp only [Act.put]
      try simp only [List.setIfInBounds_toArray, List.set_cons_zero, List.set_cons_succ]
      exact K_1_3_6_7.out _ _ _ _ _ _ _ _ _ _ _ _ _ _ _ _ _ _ _ HBS.out HK6.out f6 HK7.out f7 d6_7 HM1.out HN1.out HM3.out HN3.out
    · skip
      go_simp
      have hk := qbox wn
      have hb := b1 wn (.cells #[.slice none 0 0, .slice none 0 0] 32)
      obtain ⟨g8, hg8⟩ : ∃ g, wn.heap.size = g := ⟨_, rfl⟩
      have o7 : g7 < wn.heap.size := HK7.out.lt
      rw [hg8] at o7
      have d7_8 : g7 ≠ g8 := by omega
      clear o7
      have f8 : wc.heap.size ≤ wn.heap.size := HBS.out.size
      rw [hg8] at f8
      have HBS := Lib.hid (HBS.out.trans (hb.mono HBS.out.size))
      have HK7 := Lib.hid (HK7.out.below hb HK7.out.lt)
      have HM1 := Lib.hid (HM1.out.below hb)
      have HN1 := Lib.hid (HN1.out.below hb)
      have HM3 := Lib.hid (HM3.out.below hb)
      have HN3 := Lib.hid (HN3.out.below hb)
      obtain ⟨wn, hwm⟩ : ∃ W, wn.alloc (.cells #[.slice none 0 0, .slice none 0 0] 32) = W := ⟨_, rfl⟩
      rw [hwm] at hk HBS HK7 HM1 HN1 HM3 HN3
      rw [hg8] at hk ⊢
      rw [hwm]
      have HK8 := Lib.hid hk
      clear hk hb hg8 hwm
      refine hK.out _ _ HBS.out (fun hHeld => ?_)
      clear hK K
      try dsimp only [Act.put]
      try simp only [List.setIfInBounds_toArray, List.set_cons_zero, List.set_cons_succ]
      exact K_1_3_7_8.out _ _ _ _ _ _ _ _ _ _ _ _ _ _ _ _ _ _ _ HBS.out HK7.out f7 HK8.out f8 d7_8 HM1.out HN1.out HM3.out HN3.out
  intro key
  try dsimp only [Act.put] at key
  try simp only [List.setIfInBounds_toArray, List.set_cons_zero, List.set_cons_succ] at key
  have K_1_3_7 := Lib.hid key
  clear key
  refine memoH (fun a G => ∀ (wn : World) (g8 : Nat) (B1 : Option Addr) (i1 e1 : Nat) (B2 : Option Addr) (i2 e2 L1 L2 : Nat) (B3 : Option Addr) (i3 e3 : Nat) (B4 : Option Addr) (i4 e4 L3 L4 : Nat), (Below wc.heap.size wc wn) → (Blk wn g8 32 #[.slice none 0 0, .slice none 0 0]) → (wc.heap.size ≤ g8) → (Num wn L1 (.agg #[.slice B1 i1 e1]) (U X1)) → (Num wn L2 (.agg #[.slice B2 i2 e2]) (U X2)) → (Num wn L3 (.agg #[.slice B3 i3 e3]) (U X3)) → (Num wn L4 (.agg #[.slice B4 i4 e4]) (U X4)) → G (((a.put (some 9) (.pointer (some ⟨g8, 0, none⟩))).put (some 46) (.agg #[.slice B1 i1 e1, .slice B2 i2 e2])).put (some 48) (.agg #[.slice B3 i3 e3, .slice B4 i4 e4])) wn) 6 #[true, true, true, true, true, false, false, false, true, false, false, false] ?_ ?_
  · try dsimp only [Act.put]
    try simp only [List.setIfInBounds_toArray, List.set_cons_zero, List.set_cons_succ]
    intro wn g8 B1 i1 e1 B2 i2 e2 L1 L2 B3 i3 e3 B4 i4 e4 L3 L4 HBS HK8 f8 HM1 HN1 HM3 HN3
    have HBS := Lib.hid HBS
    have HK8 := Lib.hid HK8
    have HM1 := Lib.hid HM1
    have HN1 := Lib.hid HN1
    have HM3 := Lib.hid HM3
    have HN3 := Lib.hid HN3
    refine wpAnyH_ready (rs := [5, 6, 7]) (by kernel_rfl) (by simp) (AllReadyH.cons (op_of rfl) (fun K hK => ?_) (AllReadyH.cons (op_of rfl) (fun K hK => ?_) (AllReadyH.cons (op_of rfl) (fun K hK => ?_) AllReadyH.nil)))
    · skip
      go_simp
      refine (in4_b A5 A6 X5 X6 n5 c5 n6 c6 _ HL5.out HL6.out ((HR5.out.below HBS.out (Nat.le_refl _)).more HBS.out.size) ((HR6.out.below HBS.out (Nat.le_refl _)).more HBS.out.size) HD5.out HD6.out (by omega) (by omega)).mono ?_
      rintro en wn ⟨B5, i5, e5, B6, i6, e6, rfl, ⟨L5, hl1, hx1⟩, ⟨L6, hl2, hx2⟩, hb⟩
      clear hl1 hl2
      have HBS := Lib.hid (HBS.out.trans (hb.mono HBS.out.size))
      have HK8 := Lib.hid (HK8.out.below hb HK8.out.lt)
      have HM1 := Lib.hid (HM1.out.below hb)
      have HN1 := Lib.hid (HN1.out.below hb)
      have HM3 := Lib.hid (HM3.out.below hb)
      have HN3 := Lib.hid (HN3.out.below hb)
      have HM5 := Lib.hid hx1
      have HN5 := Lib.hid hx2
      clear hx1 hx2 hb
      refine hK.out _ _ HBS.out (fun hHeld => ?_)
      clear hK K
      try dsimp only [Act.put]
      try simp only [List.setIfInBounds_toArray, List.set_cons_zero, List.set_cons_succ]
      exact K_1_3_5_8.out _ _ _ _ _ _ _ _ _ _ _ _ _ _ _ _ _ _ _ _ _ _ _ _ _ _ HBS.out HK8.out f8 HM1.out HN1.out HM3.out HN3.out HM5.out HN5.out
    · skip
      go_simp
      have hk := qbox wn
      have hb := b1 wn (.cells #[.slice none 0 0, .slice none 0 0] 32)
      obtain ⟨g6, hg6⟩ : ∃ g, wn.heap.size = g := ⟨_, rfl⟩
      have o8 : g8 < wn.heap.size := HK8.out.lt
      rw [hg6] at o8
      have d6_8 : g6 ≠ g8 := by omega
      clear o8
      have f6 : wc.heap.size ≤ wn.heap.size := HBS.out.size
      rw [hg6] at f6
      have HBS := Lib.hid (HBS.out.trans (hb.mono HBS.out.size))
      have HK8 := Lib.hid (HK8.out.below hb HK8.out.lt)
      have HM1 := Lib.hid (HM1.out.below hb)
      have HN1 := Lib.hid (HN1.out.below hb)
      have HM3 := Lib.hid (HM3.out.below hb)
      have HN3 := Lib.hid (HN3.out.below hb)
      obtain ⟨wn, hwm⟩ : ∃ W, wn.alloc (.cells #[.slice none 0 0, .slice none 0 0] 32) = W := ⟨_, rfl⟩
      rw [hwm] at hk HBS HK8 HM1 HN1 HM3 HN3
      rw [hg6] at hk ⊢
      rw [hwm]
      have HK6 := Lib.hid hk
      clear hk hb hg6 hwm
      refine hK.out _ _ HBS.out (fun hHeld => ?_)
      clear hK K
      try dsimp only [Act.put]
      try simp only [List.setIfInBounds_toArray, List.set_cons_zero, List.set_cons_succ]
      exact K_1_3_6_8.out _ _ _ _ _ _ _ _ _ _ _ _ _ _ _ _ _ _ _ HBS.out HK6.out f6 HK8.out f8 d6_8 HM1.out HN1.out HM3.out HN3.out
    · skip
      go_simp
      have hk := qbox wn
      have hb := b1 wn (.cells #[.slice none 0 0, .slice none 0 0] 32)
      obtain ⟨g7, hg7⟩ : ∃ g, wn.heap.size = g := ⟨_, rfl⟩
      have o8 : g8 < wn.heap.size := HK8.out.lt
      rw [hg7] at o8
      have d7_8 : g7 ≠ g8 := by omega
      clear o8
      have f7 : wc.heap.size ≤ wn.heap.size := HBS.out.size
      rw [hg7] at f7
      have HBS := Lib.hid (HBS.out.trans (hb.mono HBS.out.size))
      have HK8 := Lib.hid (HK8.out.below hb HK8.out.lt)
      have HM1 := Lib.hid (HM1.out.below hb)
      have HN1 := Lib.hid (HN1.out.below hb)
      have HM3 := Lib.hid (HM3.out.below hb)
      have HN3 := Lib.hid (HN3.out.below hb)
      obtain ⟨wn, hwm⟩ : ∃ W, wn.alloc (.cells #[.slice none 0 0, .slice none 0 0] 32) = W := ⟨_, rfl⟩
      rw [hwm] at hk HBS HK8 HM1 HN1 HM3 HN3
      rw [hg7] at hk ⊢
      rw [hwm]
      have HK7 := Lib.hid hk
      clear hk hb hg7 hwm
      refine hK.out _ _ HBS.out (fun hHeld => ?_)
      clear hK K
      try dsimp only [Act.put]
      try simp only [List.setIfInBounds_toArray, List.set_cons_zero, List.set_cons_succ]
      exact K_1_3_7_8.out _ _ _ _ _ _ _ _ _ _ _ _ _ _ _ _ _ _ _ HBS.out HK7.out f7 HK8.out f8 d7_8 HM1.out HN1.out HM3.out HN3.out
  intro key
  try dsimp only [Act.put] at key
  try simp only [List.setIfInBounds_toArray, List.set_cons_zero, List.set_cons_succ] at key
  have K_1_3_8 := Lib.hid key
  clear key
  refine memoH (fun a G => ∀ (wn : World) (B1 : Option Addr) (i1 e1 : Nat) (B2 : Option Addr) (i2 e2 L1 L2 : Nat) (B3 : Option Addr) (i3 e3 : Nat) (B4 : Option Addr) (i4 e4 L3 L4 : Nat) (B5 : Option Addr) (i5 e5 : Nat) (B6 : Option Addr) (i6 e6 L5 L6 : Nat), (Below wc.heap.size wc wn) → (Num wn L1 (.agg #[.slice B1 i1 e1]) (U X1)) → (Num wn L2 (.agg #[.slice B2 i2 e2]) (U X2)) → (Num wn L3 (.agg #[.slice B3 i3 e3]) (U X3)) → (Num wn L4 (.agg #[.slice B4 i4 e4]) (U X4)) → (Num wn L5 (.agg #[.slice B5 i5 e5]) (U X5)) → (Num wn L6 (.agg #[.slice B6 i6 e6]) (U X6)) → G (((a.put (some 46) (.agg #[.slice B1 i1 e1, .slice B2 i2 e2])).put (some 48) (.agg #[.slice B3 i3 e3, .slice B4 i4 e4])).put (some 50) (.agg #[.slice B5 i5 e5, .slice B6 i6 e6])) wn) 6 #[true, true, true, true, true, true, false, false, false, false, false, false] ?_ ?_
  · try dsimp only [Act.put]
    try simp only [List.setIfInBounds_toArray, List.set_cons_zero, List.set_cons_succ]
    intro wn B1 i1 e1 B2 i2 e2 L1 L2 B3 i3 e3 B4 i4 e4 L3 L4 B5 i5 e5 B6 i6 e6 L5 L6 HBS HM1 HN1 HM3 HN3 HM5 HN5
    have HBS := Lib.hid HBS
    have HM1 := Lib.hid HM1
    have HN1 := Lib.hid HN1
    have HM3 := Lib.hid HM3
    have HN3 := Lib.hid HN3
    have HM5 := Lib.hid HM5
    have HN5 := Lib.hid HN5
    refine wpAnyH_ready (rs := [6, 7, 8]) (by kernel_rfl) (by simp) (AllReadyH.cons (op_of rfl) (fun K hK => ?_) (AllReadyH.cons (op_of rfl) (fun K hK => ?_) (AllReadyH.cons (op_of rfl) (fun K hK => ?_) AllReadyH.nil)))
    · skip
      go_simp
      have hk := qbox wn
      have hb := b1 wn (.cells #[.slice none 0 0, .slice none 0 0] 32)
      obtain ⟨g6, hg6⟩ : ∃ g, wn.heap.size = g := ⟨_, rfl⟩
      have f6 : wc.heap.size ≤ wn.heap.size := HBS.out.size
      rw [hg6] at f6
      have HBS := Lib.hid (HBS.out.trans (hb.mono HBS.out.size))
      have HM1 := Lib.hid (HM1.out.below hb)
      have HN1 := Lib.hid (HN1.out.below hb)
      have HM3 := Lib.hid (HM3.out.below hb)
      have HN3 := Lib.hid (HN3.out.below hb)
      have HM5 := Lib.hid (HM5.out.below hb)
      have HN5 := Lib.hid (HN5.out.below hb)
      obtain ⟨wn, hwm⟩ : ∃ W, wn.alloc (.cells #[.slice none 0 0, .slice none 0 0] 32) = W := ⟨_, rfl⟩
      rw [hwm] at hk HBS HM1 HN1 HM3 HN3 HM5 HN5
      rw [hg6] at hk ⊢
      rw [hwm]
      have HK6 := Lib.hid hk
      clear hk hb hg6 hwm
      refine hK.out _ _ HBS.out (fun hHeld => ?_)
      clear hK K
      try dsimp only [Act.put]
      try simp only [List.setIfInBounds_toArray, List.set_cons_zero, List.set_cons_succ]
      exact K_1_3_5_6.out _ _ _ _ _ _ _ _ _ _ _ _ _ _ _ _ _ _ _ _ _ _ _ _ _ _ HBS.out HK6.out f6 HM1.out HN1.out HM3.out HN3.out HM5.out HN5.out
    · skip
      go_simp
      have hk := qbox wn
      have hb := b1 wn (.cells #[.slice none 0 0, .slice none 0 0] 32)
      obtain ⟨g7, hg7⟩ : ∃ g, wn.heap.size = g := ⟨_, rfl⟩
      have f7 : wc.heap.size ≤ wn.heap.size := HBS.out.size
      rw [hg7] at f7
      have HBS := Lib.hid (HBS.out.trans (hb.mono HBS.out.size))
      have HM1 := Lib.hid (HM1.out.below hb)
      have HN1 := Lib.hid (HN1.out.below hb)
      have HM3 := Lib.hid (HM3.out.below hb)
      have HN3 := Lib.hid (HN3.out.below hb)
      have HM5 := Lib.hid (HM5.out.below hb)
      have HN5 := Lib.hid (HN5.out.below hb)
      obtain ⟨wn, hwm⟩ : ∃ W, wn.alloc (.cells #[.slice none 0 0, .slice none 0 0] 32) = W := ⟨_, rfl⟩
      rw [hwm] at hk HBS HM1 HN1 HM3 HN3 HM5 HN5
      rw [hg7] at hk ⊢
      rw [hwm]
      have HK7 := Lib.hid hk
      clear hk hb hg7 hwm
      refine hK.out _ _ HBS.out (fun hHeld => ?_)
      clear hK K
      try dsimp only [Act.put]
      try simp only [List.setIfInBounds_toArray, List.set_cons_zero, List.set_cons_succ]
      exact K_1_3_5_7.out _ _ _ _ _ _ _ _ _ _ _ _ _ _ _ _ _ _ _ _ _ _ _ _ _ _ HBS.out HK7.out f7 HM1.out HN1.out HM3.out HN3.out HM5.out HN5.out
    · skip
      go_simp
      have hk := qbox wn
      have hb := b1 wn (.cells #[.slice none 0 0, .slice none 0 0] 32)
      obtain ⟨g8, hg8⟩ : ∃ g, wn.heap.size = g := ⟨_, rfl⟩
      have f8 : wc.heap.size ≤ wn.heap.size := HBS.out.size
      rw [hg8] at f8
      have HBS := Lib.hid (HBS.out.trans (hb.mono HBS.out.size))
      have HM1 := Lib.hid (HM1.out.below hb)
      have HN1 := Lib.hid (HN1.out.below hb)
      have HM3 := Lib.hid (HM3.out.below hb)
      have HN3 := Lib.hid (HN3.out.below hb)
      have HM5 := Lib.hid (HM5.out.below hb)
      have HN5 := Lib.hid (HN5.out.below hb)
      obtain ⟨wn, hwm⟩ : ∃ W, wn.alloc (.cells #[.slice none 0 0, .slice none 0 0] 32) = W := ⟨_, rfl⟩
      rw [hwm] at hk HBS HM1 HN1 HM3 HN3 HM5 HN5
      rw [hg8] at hk ⊢
      rw [hwm]
      have HK8 := Lib.hid hk
      clear hk hb hg8 hwm
      refine hK.out _ _ HBS.out (fun hHeld => ?_)
      clear hK K
      try dsimp only [Act.put]
      try simp only [List.setIfInBounds_toArray, List.set_cons_zero, List.set_cons_succ]
      exact K_1_3_5_8.out _ _ _ _ _ _ _ _ _ _ _ _ _ _ _ _ _ _ _ _ _ _ _ _ _ _ HBS.out HK8.out f8 HM1.out HN1.out HM3.out HN3.out HM5.out HN5.out
  intro key
  try dsimp only [Act.put] at key
  try simp only [List.setIfInBounds_toArray, List.set_cons_zero, List.set_cons_succ] at key
  have K_1_3_5 := Lib.hid key
  clear key
  refine memoH (fun a G => ∀ (wn : World) (g6 : Nat) (g7 : Nat), (Below wc.heap.size wc wn) → (Blk wn g6 32 #[.slice none 0 0, .slice none 0 0]) → (wc.heap.size ≤ g6) → (Blk wn g7 32 #[.slice none 0 0, .slice none 0 0]) → (wc.heap.size ≤ g7) → (g6 ≠ g7) → G ((a.put (some 7) (.pointer (some ⟨g6, 0, none⟩))).put (some 8) (.pointer (some ⟨g7, 0, none⟩))) wn) 7 #[true, false, true, false, true, false, true, true, false, false, false, false] ?_ ?_
  · try dsimp only [Act.put]
    try simp only [List.setIfInBounds_toArray, List.set_cons_zero, List.set_cons_succ]
    intro wn g6 g7 HBS HK6 f6 HK7 f7 d6_7
    have HBS := Lib.hid HBS
    have HK6 := Lib.hid HK6
    have HK7 := Lib.hid HK7
    refine wpAnyH_ready (rs := [1, 8]) (by kernel_rfl) (by simp) (AllReadyH.cons (op_of rfl) (fun K hK => ?_) (AllReadyH.cons (op_of rfl) (fun K hK => ?_) AllReadyH.nil))
    · skip
      go_simp
      refine (in4_b A1 A2 X1 X2 n1 c1 n2 c2 _ HL1.out HL2.out ((HR1.out.below HBS.out (Nat.le_refl _)).more HBS.out.size) ((HR2.out.below HBS.out (Nat.le_refl _)).more HBS.out.size) HD1.out HD2.out (by omega) (by omega)).mono ?_
      rintro en wn ⟨B1, i1, e1, B2, i2, e2, rfl, ⟨L1, hl1, hx1⟩, ⟨L2, hl2, hx2⟩, hb⟩
      clear hl1 hl2
      have HBS := Lib.hid (HBS.out.trans (hb.mono HBS.out.size))
      have HK6 := Lib.hid (HK6.out.below hb HK6.out.lt)
      have HK7 := Lib.hid (HK7.out.below hb HK7.out.lt)
      have HM1 := Lib.hid hx1
      have HN1 := Lib.hid hx2
      clear hx1 hx2 hb
      refine hK.out _ _ HBS.out (fun hHeld => ?_)
      clear hK K
      try dsimp only [Act.put]
      try simp only [List.setIfInBounds_toArray, List.set_cons_zero, List.set_cons_succ]
      exact K_1_6_7.out _ _ _ _ _ _ _ _ _ _ _ HBS.out HK6.out f6 HK7.out f7 d6_7 HM1.out HN1.out
    · skip
      go_simp
      have hk := qbox wn
      have hb := b1 wn (.cells #[.slice none 0 0, .slice none 0 0] 32)
      obtain ⟨g8, hg8⟩ : ∃ g, wn.heap.size = g := ⟨_, rfl⟩
      have o6 : g6 < wn.heap.size := HK6.out.lt
      rw [hg8] at o6
      have d6_8 : g6 ≠ g8 := by omega
      clear o6
      have o7 : g7 < wn.heap.size := HK7.out.lt
      rw [hg8] at o7
      have d7_8 : g7 ≠ g8 := by omega
      clear o7
      have f8 : wc.heap.size ≤ wn.heap.size := HBS.out.size
      rw [hg8] at f8
      have HBS := Lib.hid (HBS.out.trans (hb.mono HBS.out.size))
      have HK6 := Lib.hid (HK6.out.below hb HK6.out.lt)
      have HK7 := Lib.hid (HK7.out.below hb HK7.out.lt)
      obtain ⟨wn, hwm⟩ : ∃ W, wn.alloc (.cells #[.slice none 0 0, .slice none 0 0] 32) = W := ⟨_, rfl⟩
      rw [hwm] at hk HBS HK6 HK7
      rw [hg8] at hk ⊢
      rw [hwm]
      have HK8 := Lib.hid hk
      clear hk hb hg8 hwm
      refine hK.out _ _ HBS.out (fun hHeld => ?_)
      clear hK K
      try dsimp only [Act.put]
      try simp only [List.setIfInBounds_toArray, List.set_cons_zero, List.set_cons_succ]
      exact K_6_7_8.out _ _ _ _ HBS.out HK6.out f6 HK7.out f7 HK8.out f8 d6_7 d6_8 d7_8
  intro key
  try dsimp only [Act.put] at key
  try simp only [List.setIfInBounds_toArray, List.set_cons_zero, List.set_cons_succ] at key
  have K_6_7 := Lib.hid key
  clear key
  refine memoH (fun a G => ∀ (wn : World) (g6 : Nat) (g8 : Nat), (Below wc.heap.size wc wn) → (Blk wn g6 32 #[.slice none 0 0, .slice none 0 0]) → (wc.heap.size ≤ g6) → (Blk wn g8 32 #[.slice none 0 0, .slice none 0 0]) → (wc.heap.size ≤ g8) → (g6 ≠ g8) → G ((a.put (some 7) (.pointer (some ⟨g6, 0, none⟩))).put (some 9) (.pointer (some ⟨g8, 0, none⟩))) wn) 7 #[true, false, true, false, true, false, true, false, true, false, false, false] ?_ ?_
  · try dsimp only [Act.put]
    try simp only [List.setIfInBounds_toArray, List.set_cons_zero, List.set_cons_succ]
    intro wn g6 g8 HBS HK6 f6 HK8 f8 d6_8
    have HBS := Lib.hid HBS
    have HK6 := Lib.hid HK6
    have HK8 := Lib.hid HK8
    refine wpAnyH_ready (rs := [1, 7]) (by kernel_rfl) (by simp) (AllReadyH.cons (op_of rfl) (fun K hK => ?_) (AllReadyH.cons (op_of rfl) (fun K hK => ?_) AllReadyH.nil))
    · skip
      go_simp
      refine (in4_b A1 A2 X1 X2 n1 c1 n2 c2 _ HL1.out HL2.out ((HR1.out.below HBS.out (Nat.le_refl _)).more HBS.out.size) ((HR2.out.below HBS.out (Nat.le_refl _)).more HBS.out.size) HD1.out HD2.out (by omega) (by omega)).mono ?_
      rintro en wn ⟨B1, i1, e1, B2, i2, e2, rfl, ⟨L1, hl1, hx1⟩, ⟨L2, hl2, hx2⟩, hb⟩
      clear hl1 hl2
      have HBS := Lib.hid (HBS.out.trans (hb.mono HBS.out.size))
      have HK6 := Lib.hid (HK6.out.below hb HK6.out.lt)
      have HK8 := Lib.hid (HK8.out.below hb HK8.out.lt)
      have HM1 := Lib.hid hx1
      have HN1 := Lib.hid hx2
      clear hx1 hx2 hb
      refine hK.out _ _ HBS.out (fun hHeld => ?_)
      clear hK K
      try dsimp only [Act.put]
      try simp only [List.setIfInBounds_toArray, List.set_cons_zero, List.set_cons_succ]
      exact K_1_6_8.out _ _ _ _ _ _ _ _ _ _ _ HBS.out HK6.out f6 HK8.out f8 d6_8 HM1.out HN1.out
    · skip
      go_simp
      have hk := qbox wn
      have hb := b1 wn (.cells #[.slice none 0 0, .slice none 0 0] 32)
      obtain ⟨g7, hg7⟩ : ∃ g, wn.heap.size = g := ⟨_, rfl⟩
      have o6 : g6 < wn.heap.size := HK6.out.lt
      rw [hg7] at o6
      have d6_7 : g6 ≠ g7 := by omega
      clear o6
      have o8 : g8 < wn.heap.size := HK8.out.lt
      rw [hg7] at o8
      have d7_8 : g7 ≠ g8 := by omega
      clear o8
      have f7 : wc.heap.size ≤ wn.heap.size := HBS.out.size
      rw [hg7] at f7
      have HBS := Lib.hid (HBS.out.trans (hb.mono HBS.out.size))
      have HK6 := Lib.hid (HK6.out.below hb HK6.out.lt)
      have HK8 := Lib.hid (HK8.out.below hb HK8.out.lt)
      obtain ⟨wn, hwm⟩ : ∃ W, wn.alloc (.cells #[.slice none 0 0, .slice none 0 0] 32) = W := ⟨_, rfl⟩
      rw [hwm] at hk HBS HK6 HK8
      rw [hg7] at hk ⊢
      rw [hwm]
      have HK7 := Lib.hid hk
      clear hk hb hg7 hwm
      refine hK.out _ _ HBS.out (fun hHeld => ?_)
      clear hK K
      try dsimp only [Act.put]
      try simp only [List.setIfInBounds_toArray, List.set_cons_zero, List.set_cons_succ]
      exact K_6_7_8.out _ _ _ _ HBS.out HK6.out f6 HK7.out f7 HK8.out f8 d6_7 d6_8 d7_8
  intro key
  try dsimp only [Act.put] at key
  try simp only [List.setIfInBounds_toArray, List.set_cons_zero, List.set_cons_succ] at key
  have K_6_8 := Lib.hid key
  clear key
  refine memoH (fun a G => ∀ (wn : World) (g7 : Nat) (g8 : Nat), (Below wc.heap.size wc wn) → (Blk wn g7 32 #[.slice none 0 0, .slice none 0 0]) → (wc.heap.size ≤ g7) → (Blk wn g8 32 #[.slice none 0 0, .slice none 0 0]) → (wc.heap.size ≤ g8) → (g7 ≠ g8) → G ((a.put (some 8) (.pointer (some ⟨g7, 0, none⟩))).put (some 9) (.pointer (some ⟨g8, 0, none⟩))) wn) 7 #[true, false, true, false, true, false, false, true, true, false, false, false] ?_ ?_
  · try dsimp only [Act.put]
    try simp only [List.setIfInBounds_toArray, List.set_cons_zero, List.set_cons_succ]
    intro wn g7 g8 HBS HK7 f7 HK8 f8 d7_8
    have HBS := Lib.hid HBS
    have HK7 := Lib.hid HK7
    have HK8 := Lib.hid HK8
    refine wpAnyH_ready (rs := [1, 6]) (by kernel_rfl) (by simp) (AllReadyH.cons (op_of rfl) (fun K hK => ?_) (AllReadyH.cons (op_of rfl) (fun K hK => ?_) AllReadyH.nil))
    · skip
      go_simp
      refine (in4_b A1 A2 X1 X2 n1 c1 n2 c2 _ HL1.out HL2.out ((HR1.out.below HBS.out (Nat.le_refl _)).more HBS.out.size) ((HR2.out.below HBS.out (Nat.le_refl _)).more HBS.out.size) HD1.out HD2.out (by omega) (by omega)).mono ?_
      rintro en wn ⟨B1, i1, e1, B2, i2, e2, rfl, ⟨L1, hl1, hx1⟩, ⟨L2, hl2, hx2⟩, hb⟩
      clear hl1 hl2
      have HBS := Lib.hid (HBS.out.trans (hb.mono HBS.out.size))
      have HK7 := Lib.hid (HK7.out.below hb HK7.out.lt)
      have HK8 := Lib.hid (HK8.out.below hb HK8.out.lt)
      have HM1 := Lib.hid hx1
      have HN1 := Lib.hid hx2
      clear hx1 hx2 hb
      refine hK.out _ _ HBS.out (fun hHeld => ?_)
      clear hK K
      try dsimp only [Act.put]
      try simp only [List.setIfInBounds_toArray, List.set_cons_zero, List.set_cons_succ]
      exact K_1_7_8.out _ _ _ _ _ _ _ _ _ _ _ HBS.out HK7.out f7 HK8.out f8 d7_8 HM1.out HN1.out
    · skip
      go_simp
      have hk := qbox wn
      have hb := b1 wn (.cells #[.slice none 0 0, .slice none 0 0] 32)
      obtain ⟨g6, hg6⟩ : ∃ g, wn.heap.size = g := ⟨_, rfl⟩
      have o7 : g7 < wn.heap.size := HK7.out.lt
      rw [hg6] at o7
      have d6_7 : g6 ≠ g7 := by omega
      clear o7
      have o8 : g8 < wn.heap.size := HK8.out.lt
      rw [hg6] at o8
      have d6_8 : g6 ≠ g8 := by omega
      clear o8
      have f6 : wc.heap.size ≤ wn.heap.size := HBS.out.size
      rw [hg6] at f6
      have HBS := Lib.hid (HBS.out.trans (hb.mono HBS.out.size))
      have HK7 := Lib.hid (HK7.out.below hb HK7.out.lt)
      have HK8 := Lib.hid (HK8.out.below hb HK8.out.lt)
      obtain ⟨wn, hwm⟩ : ∃ W, wn.alloc (.cells #[.slice none 0 0, .slice none 0 0] 32) = W := ⟨_, rfl⟩
      rw [hwm] at hk HBS HK7 HK8
      rw [hg6] at hk ⊢
      rw [hwm]
      have HK6 := Lib.hid hk
      clear hk hb hg6 hwm
      refine hK.out _ _ HBS.out (fun hHeld => ?_)
      clear hK K
      try dsimp only [Act.put]
      try simp only [List.setIfInBounds_toArray, List.set_cons_zero, List.set_cons_succ]
      exact K_6_7_8.out _ _ _ _ HBS.out HK6.out f6 HK7.out f7 HK8.out f8 d6_7 d6_8 d7_8
  intro key
  try dsimp only [Act.put] at key
  try simp only [List.setIfInBounds_toArray, List.set_cons_zero, List.set_cons_succ] at key
  have K_7_8 := Lib.hid key
  clear key
  refine memoH (fun a G => ∀ (wn : World) (g6 : Nat) (B1 : Option Addr) (i1 e1 : Nat) (B2 : Option Addr) (i2 e2 L1 L2 : Nat), (Below wc.heap.size wc wn) → (Blk wn g6 32 #[.slice none 0 0, .slice none 0 0]) → (wc.heap.size ≤ g6) → (Num wn L1 (.agg #[.slice B1 i1 e1]) (U X1)) → (Num wn L2 (.agg #[.slice B2 i2 e2]) (U X2)) → G ((a.put (some 7) (.pointer (some ⟨g6, 0, none⟩))).put (some 46) (.agg #[.slice B1 i1 e1, .slice B2 i2 e2])) wn) 7 #[true, true, true, false, true, false, true, false, false, false, false, false] ?_ ?_
  · try dsimp only [Act.put]
    try simp only [List.setIfInBounds_toArray, List.set_cons_zero, List.set_cons_succ]
    intro wn g6 B1 i1 e1 B2 i2 e2 L1 L2 HBS HK6 f6 HM1 HN1
    have HBS := Lib.hid HBS
    have HK6 := Lib.hid HK6
    have HM1 := Lib.hid HM1
    have HN1 := Lib.hid HN1
    refine wpAnyH_ready (rs := [3, 7, 8]) (by kernel_rfl) (by simp) (AllReadyH.cons (op_of rfl) (fun K hK => ?_) (AllReadyH.cons (op_of rfl) (fun K hK => ?_) (AllReadyH.cons (op_of rfl) (fun K hK => ?_) AllReadyH.nil)))
    · skip
      go_simp
      refine (in4_b A3 A4 X3 X4 n3 c3 n4 c4 _ HL3.out HL4.out ((HR3.out.below HBS.out (Nat.le_refl _)).more HBS.out.size) ((HR4.out.below HBS.out (Nat.le_refl _)).more HBS.out.size) HD3.out HD4.out (by omega) (by omega)).mono ?_
      rintro en wn ⟨B3, i3, e3, B4, i4, e4, rfl, ⟨L3, hl1, hx1⟩, ⟨L4, hl2, hx2⟩, hb⟩
      clear hl1 hl2
      have HBS := Lib.hid (HBS.out.trans (hb.mono HBS.out.size))
      have HK6 := Lib.hid (HK6.out.below hb HK6.out.lt)
      have HM1 := Lib.hid (HM1.out.below hb)
      have HN1 := Lib.hid (HN1.out.below hb)
      have HM3 := Lib.hid hx1
      have HN3 := Lib.hid hx2
      clear hx1 hx2 hb
      refine hK.out _ _ HBS.out (fun hHeld => ?_)
      clear hK K
      try dsimp only [Act.put]
      try simp only [List.setIfInBounds_toArray, List.set_cons_zero, List.set_cons_succ]
      exact K_1_3_6.out _ _ _ _ _ _ _ _ _ _ _ _ _ _ _ _ _ _ HBS.out HK6.out f6 HM1.out HN1.out HM3.out HN3.out
    · skip
      go_simp
      have hk := qbox wn
      have hb := b1 wn (.cells #[.slice none 0 0, .slice none 0 0] 32)
      obtain ⟨g7, hg7⟩ : ∃ g, wn.heap.size = g := ⟨_, rfl⟩
      have o6 : g6 < wn.heap.size := HK6.out.lt
      rw [hg7] at o6
      have d6_7 : g6 ≠ g7 := by omega
      clear o6
      have f7 : wc.heap.size ≤ wn.heap.size := HBS.out.size
      rw [hg7] at f7
      have HBS := Lib.hid (HBS.out.trans (hb.mono HBS.out.size))
      have HK6 := Lib.hid (HK6.out.below hb HK6.out.lt)
      have HM1 := Lib.hid (HM1.out.below hb)
      have HN1 := Lib.hid (HN1.out.below hb)
      obtain ⟨wn, hwm⟩ : ∃ W, wn.alloc (.cells #[.slice none 0 0, .slice none 0 0] 32) = W := ⟨_, rfl⟩
      rw [hwm] at hk HBS HK6 HM1 HN1
      rw [hg7] at hk ⊢
      rw [hwm]
      have HK7 := Lib.hid hk
      clear hk hb hg7 hwm
      refine hK.out _ _ HBS.out (fun hHeld => ?_)
      clear hK K
      try dsimp only [Act.put]
      try simp only [List.setIfInBounds_toArray, List.set_cons_zero, List.set_cons_succ]
      exact K_1_6_7.out _ _ _ _ _ _ _ _ _ _ _ HBS.out HK6.out f6 HK7.out f7 d6_7 HM1.out HN1.out
    · skip
      go_simp
      have hk := qbox wn
      have hb := b1 wn (.cells #[.slice none 0 0, .slice none 0 0] 32)
      obtain ⟨g8, hg8⟩ : ∃ g, wn.heap.size = g := ⟨_, rfl⟩
      have o6 : g6 < wn.heap.size := HK6.out.lt
      rw [hg8] at o6
      have d6_8 : g6 ≠ g8 := by omega
      clear o6
      have f8 : wc.heap.size ≤ wn.heap.size := HBS.out.size
      rw [hg8] at f8
      have HBS := Lib.hid (HBS.out.trans (hb.mono HBS.out.size))
      have HK6 := Lib.hid (HK6.out.below hb HK6.out.lt)
      have HM1 := Lib.hid (HM1.out.below hb)
      have HN1 := Lib.hid (HN1.out.below hb)
      obtain ⟨wn, hwm⟩ : ∃ W, wn.alloc (.cells #[.slice none 0 0, .slice none 0 0] 32) = W := ⟨_, rfl⟩
      rw [hwm] at hk HBS HK6 HM1 HN1
      rw [hg8] at hk ⊢
      rw [hwm]
      have HK8 := Lib.hid hk
      clear hk hb hg8 hwm
      refine hK.out _ _ HBS.out (fun hHeld => ?_)
      clear hK K
      try dsimp only [Act.put]
      try simp only [List.setIfInBounds_toArray, List.set_cons_zero, List.set_cons_succ]
      exact K_1_6_8.out _ _ _ _ _ _ _ _ _ _ _ HBS.out HK6.out f6 HK8.out f8 d6_8 HM1.out HN1.out
  intro key
  try dsimp only [Act.put] at key
  try simp only [List.setIfInBounds_toArray, List.set_cons_zero, List.set_cons_succ] at key
  have K_1_6 := Lib.hid key
  clear key
  refine memoH (fun a G => ∀ (wn : World) (g7 : Nat) (B1 : Option Addr) (i1 e1 : Nat) (B2 : Option Addr) (i2 e2 L1 L2 : Nat), (Below wc.heap.size wc wn) → (Blk wn g7 32 #[.slice none 0 0, .slice none 0 0]) → (wc.heap.size ≤ g7) → (Num wn L1 (.agg #[.slice B1 i1 e1]) (U X1)) → (Num wn L2 (.agg #[.slice B2 i2 e2]) (U X2)) → G ((a.put (some 8) (.pointer (some ⟨g7, 0, none⟩))).put (some 46) (.agg #[.slice B1 i1 e1, .slice B2 i2 e2])) wn) 7 #[true, true, true, false, true, false, false, true, false, false, false, false] ?_ ?_
  · try dsimp only [Act.put]
    try simp only [List.setIfInBounds_toArray, List.set_cons_zero, List.set_cons_succ]
    intro wn g7 B1 i1 e1 B2 i2 e2 L1 L2 HBS HK7 f7 HM1 HN1
    have HBS := Lib.hid HBS
    have HK7 := Lib.hid HK7
    have HM1 := Lib.hid HM1
    have HN1 := Lib.hid HN1
    refine wpAnyH_ready (rs := [3, 6, 8]) (by kernel_rfl) (by simp) (AllReadyH.cons (op_of rfl) (fun K hK => ?_) (AllReadyH.cons (op_of rfl) (fun K hK => ?_) (AllReadyH.cons (op_of rfl) (fun K hK => ?_) AllReadyH.nil)))
    · skip
      go_simp
      refine (in4_b A3 A4 X3 X4 n3 c3 n4 c4 _ HL3.out HL4.out ((HR3.out.below HBS.out (Nat.le_refl _)).more HBS.out.size) ((HR4.out.below HBS.out (Nat.le_refl _)).more HBS.out.size) HD3.out HD4.out (by omega) (by omega)).mono ?_
      rintro en wn ⟨B3, i3, e3, B4, i4, e4, rfl, ⟨L3, hl1, hx1⟩, ⟨L4, hl2, hx2⟩, hb⟩
      clear hl1 hl2
      have HBS := Lib.hid (HBS.out.trans (hb.mono HBS.out.size))
      have HK7 := Lib.hid (HK7.out.below hb HK7.out.lt)
      have HM1 := Lib.hid (HM1.out.below hb)
      have HN1 := Lib.hid (HN1.out.below hb)
      have HM3 := Lib.hid hx1
      have HN3 := Lib.hid hx2
      clear hx1 hx2 hb
      refine hK.out _ _ HBS.out (fun hHeld => ?_)
      clear hK K
      try dsimp only [Act.put]
      try simp only [List.setIfInBounds_toArray, List.set_cons_zero, List.set_cons_succ]
      exact K_1_3_7.out _ _ _ _ _ _ _ _ _ _ _ _ _ _ _ _ _ _ HBS.out HK7.out f7 HM1.out HN1.out HM3.out HN3.out
    · skip
      go_simp
      have hk := qbox wn
      have hb := b1 wn (.cells #[.slice none 0 0, .slice none 0 0] 32)
      obtain ⟨g6, hg6⟩ : ∃ g, wn.heap.size = g := ⟨_, rfl⟩
      have o7 : g7 < wn.heap.size := HK7.out.lt
      rw [hg6] at o7
      have d6_7 : g6 ≠ g7 := by omega
      clear o7
      have f6 : wc.heap.size ≤ wn.heap.size := HBS.out.size
      rw [hg6] at f6
      have HBS := Lib.hid (HBS.out.trans (hb.mono HBS.out.size))
      have HK7 := Lib.hid (HK7.out.below hb HK7.out.lt)
      have HM1 := Lib.hid (HM1.out.below hb)
      have HN1 := Lib.hid (HN1.out.below hb)
      obtain ⟨wn, hwm⟩ : ∃ W, wn.alloc (.cells #[.slice none 0 0, .slice none 0 0] 32) = W := ⟨_, rfl⟩
      rw [hwm] at hk HBS HK7 HM1 HN1
      rw [hg6] at hk ⊢
      rw [hwm]
      have HK6 := Lib.hid hk
      clear hk hb hg6 hwm
      refine hK.out _ _ HBS.out (fun hHeld => ?_)
      clear hK K
      try dsimp only [Act.put]
      try simp only [List.setIfInBounds_toArray, List.set_cons_zero, List.set_cons_succ]
      exact K_1_6_7.out _ _ _ _ _ _ _ _ _ _ _ HBS.out HK6.out f6 HK7.out f7 d6_7 HM1.out HN1.out
    · skip
      go_simp
      have hk := qbox wn
      have hb := b1 wn (.cells #[.slice none 0 0, .slice none 0 0] 32)
      obtain ⟨g8, hg8⟩ : ∃ g, wn.heap.size = g := ⟨_, rfl⟩
      have o7 : g7 < wn.heap.size := HK7.out.lt
      rw [hg8] at o7
      have d7_8 : g7 ≠ g8 := by omega
      clear o7
      have f8 : wc.heap.size ≤ wn.heap.size := HBS.out.size
      rw [hg8] at f8
      have HBS := Lib.hid (HBS.out.trans (hb.mono HBS.out.size))
      have HK7 := Lib.hid (HK7.out.below hb HK7.out.lt)
      have HM1 := Lib.hid (HM1.out.below hb)
      have HN1 := Lib.hid (HN1.out.below hb)
      obtain ⟨wn, hwm⟩ : ∃ W, wn.alloc (.cells #[.slice none 0 0, .slice none 0 0] 32) = W := ⟨_, rfl⟩
      rw [hwm] at hk HBS HK7 HM1 HN1
      rw [hg8] at hk ⊢
      rw [hwm]
      have HK8 := Lib.hid hk
      clear hk hb hg8 hwm
      refine hK.out _ _ HBS.out (fun hHeld => ?_)
      clear hK K
      try dsimp only [Act.put]
      try simp only [List.setIfInBounds_toArray, List.set_cons_zero, List.set_cons_succ]
      exact K_1_7_8.out _ _ _ _ _ _ _ _ _ _ _ HBS.out HK7.out f7 HK8.out f8 d7_8 HM1.out HN1.out
  intro key
  try dsimp only [Act.put] at key
  try simp only [List.setIfInBounds_toArray, List.set_cons_zero, List.set_cons_succ] at key
  have K_1_7 := Lib.hid key
  clear key
  refine memoH (fun a G => ∀ (wn : World) (g8 : Nat) (B1 : Option Addr) (i1 e1 : Nat) (B2 : Option Addr) (i2 e2 L1 L2 : Nat), (Below wc.heap.size wc wn) → (Blk wn g8 32 #[.slice none 0 0, .slice none 0 0]) → (wc.heap.size ≤ g8) → (Num wn L1 (.agg #[.slice B1 i1 e1]) (U X1)) → (Num wn L2 (.agg #[.slice B2 i2 e2]) (U X2)) → G ((a.put (some 9) (.pointer (some ⟨g8, 0, none⟩))).put (some 46) (.agg #[.slice B1 i1 e1, .slice B2 i2 e2])) wn) 7 #[true, true, true, false, true, false, false, false, true, false, false, false] ?_ ?_
  · try dsimp only [Act.put]
    try simp only [List.setIfInBounds_toArray, List.set_cons_zero, List.set_cons_succ]
    intro wn g8 B1 i1 e1 B2 i2 e2 L1 L2 HBS HK8 f8 HM1 HN1
    have HBS := Lib.hid HBS
    have HK8 := Lib.hid HK8
    have HM1 := Lib.hid HM1
    have HN1 := Lib.hid HN1
    refine wpAnyH_ready (rs := [3, 6, 7]) (by kernel_rfl) (by simp) (AllReadyH.cons (op_of rfl) (fun K hK => ?_) (AllReadyH.cons (op_of rfl) (fun K hK => ?_) (AllReadyH.cons (op_of rfl) (fun K hK => ?_) AllReadyH.nil)))
    · skip
      go_simp
      refine (in4_b A3 A4 X3 X4 n3 c3 n4 c4 _ HL3.out HL4.out ((HR3.out.below HBS.out (Nat.le_refl _)).more HBS.out.size) ((HR4.out.below HBS.out (Nat.le_refl _)).more HBS.out.size) HD3.out HD4.out (by omega) (by omega)).mono ?_
      rintro en wn ⟨B3, i3, e3, B4, i4, e4, rfl, ⟨L3, hl1, hx1⟩, ⟨L4, hl2, hx2⟩, hb⟩
      clear hl1 hl2
      have HBS := Lib.hid (HBS.out.trans (hb.mono HBS.out.size))
      have HK8 := Lib.hid (HK8.out.below hb HK8.out.lt)
      have HM1 := Lib.hid (HM1.out.below hb)
      have HN1 := Lib.hid (HN1.out.below hb)
      have HM3 := Lib.hid hx1
      have HN3 := Lib.hid hx2
      clear hx1 hx2 hb
      refine hK.out _ _ HBS.out (fun hHeld => ?_)
      clear hK K
      try dsimp only [Act.put]
      try simp only [List.setIfInBounds_toArray, List.set_cons_zero, List.set_cons_succ]
      exact K_1_3_8.out _ _ _ _ _ _ _ _ _ _ _ _ _ _ _ _ _ _ HBS.out HK8.out f8 HM1.out HN1.out HM3.out HN3.out
    · skip
      go_simp
      have hk := qbox wn
      have hb := b1 wn (.cells #[.slice none 0 0, .slice none 0 0] 32)
      obtain ⟨g6, hg6⟩ : ∃ g, wn.heap.size = g := ⟨_, rfl⟩
      have o8 : g8 < wn.heap.size := HK8.out.lt
      rw [hg6] at o8
      have d6_8 : g6 ≠ g8 := by omega
      clear o8
      have f6 : wc.heap.size ≤ wn.heap.size := HBS.out.size
      rw [hg6] at f6
      have HBS := Lib.hid (HBS.out.trans (hb.mono HBS.out.size))
      have HK8 := Lib.hid (HK8.out.below hb HK8.out.lt)
      have HM1 := Lib.hid (HM1.out.below hb)
      have HN1 := Lib.hid (HN1.out.below hb)
      obtain ⟨wn, hwm⟩ : ∃ W, wn.alloc (.cells #[.slice none 0 0, .slice none 0 0] 32) = W := ⟨_, rfl⟩
      rw [hwm] at hk HBS HK8 HM1 HN1
      rw [hg6] at hk ⊢
      rw [hwm]
      have HK6 := Lib.hid hk
      clear hk hb hg6 hwm
      refine hK.out _ _ HBS.out (fun hHeld => ?_)
      clear hK K
      try dsimp only [Act.put]
      try simp only [List.setIfInBounds_toArray, List.set_cons_zero, List.set_cons_succ]
      exact K_1_6_8.out _ _ _ _ _ _ _ _ _ _ _ HBS.out HK6.out f6 HK8.out f8 d6_8 HM1.out HN1.out
    · skip
      go_simp
      have hk := qbox wn
      have hb := b1 wn (.cells #[.slice none 0 0, .slice none 0 0] 32)
      obtain ⟨g7, hg7⟩ : ∃ g, wn.heap.size = g := ⟨_, rfl⟩
      have o8 : g8 < wn.heap.size := HK8.out.lt
      rw [hg7] at o8
      have d7_8 : g7 ≠ g8 := by omega
      clear o8
      have f7 : wc.heap.size ≤ wn.heap.size := HBS.out.size
      rw [hg7] at f7
      have HBS := Lib.hid (HBS.out.trans (hb.mono HBS.out.size))
      have HK8 := Lib.hid (HK8.out.below hb HK8.out.lt)
      have HM1 := Lib.hid (HM1.out.below hb)
      have HN1 := Lib.hid (HN1.out.below hb)
      obtain ⟨wn, hwm⟩ : ∃ W, wn.alloc (.cells #[.slice none 0 0, .slice none 0 0] 32) = W := ⟨_, rfl⟩
      rw [hwm] at hk HBS HK8 HM1 HN1
      rw [hg7] at hk ⊢
      rw [hwm]
      have HK7 := Lib.hid hk
      clear hk hb hg7 hwm
      refine hK.out _ _ HBS.out (fun hHeld => ?_)
      clear hK K
      try dsimp only [Act.put]
      try simp only [List.setIfInBounds_toArray, List.set_cons_zero, List.set_cons_succ]
      exact K_1_7_8.out _ _ _ _ _ _ _ _ _ _ _ HBS.out HK7.out f7 HK8.out f8 d7_8 HM1.out HN1.out
  intro key
  try dsimp only [Act.put] at key
  try simp only [List.setIfInBounds_toArray, List.set_cons_zero, List.set_cons_succ] at key
  have K_1_8 := Lib.hid key
  clear key
  refine memoH (fun a G => ∀ (wn : World) (B1 : Option Addr) (i1 e1 : Nat) (B2 : Option Addr) (i2 e2 L1 L2 : Nat) (B3 : Option Addr) (i3 e3 : Nat) (B4 : Option Addr) (i4 e4 L3 L4 : Nat), (Below wc.heap.size wc wn) → (Num wn L1 (.agg #[.slice B1 i1 e1]) (U X1)) → (Num wn L2 (.agg #[.slice B2 i2 e2]) (U X2)) → (Num wn L3 (.agg #[.slice B3 i3 e3]) (U X3)) → (Num wn L4 (.agg #[.slice B4 i4 e4]) (U X4)) → G ((a.put (some 46) (.agg #[.slice B1 i1 e1, .slice B2 i2 e2])).put (some 48) (.agg #[.slice B3 i3 e3, .slice B4 i4 e4])) wn) 7 #[true, true, true, true, true, false, false, false, false, false, false, false] ?_ ?_
  · try dsimp only [Act.put]
    try simp only [List.setIfInBounds_toArray, List.set_cons_zero, List.set_cons_succ]
    intro wn B1 i1 e1 B2 i2 e2 L1 L2 B3 i3 e3 B4 i4 e4 L3 L4 HBS HM1 HN1 HM3 HN3
    have HBS := Lib.hid HBS
    have HM1 := Lib.hid HM1
    have HN1 := Lib.hid HN1
    have HM3 := Lib.hid HM3
    have HN3 := Lib.hid HN3
    refine wpAnyH_ready (rs := [5, 6, 7, 8]) (by kernel_rfl) (by simp) (AllReadyH.cons (op_of rfl) (fun K hK => ?_) (AllReadyH.cons (op_of rfl) (fun K hK => ?_) (AllReadyH.cons (op_of rfl) (fun K hK => ?_) (AllReadyH.cons (op_of rfl) (fun K hK => ?_) AllReadyH.nil))))
    · skip
      go_simp
      refine (in4_b A5 A6 X5 X6 n5 c5 n6 c6 _ HL5.out HL6.out ((HR5.out.below HBS.out (Nat.le_refl _)).more HBS.out.size) ((HR6.out.below HBS.out (Nat.le_refl _)).more HBS.out.size) HD5.out HD6.out (by omega) (by omega)).mono ?_
      rintro en wn ⟨B5, i5, e5, B6, i6, e6, rfl, ⟨L5, hl1, hx1⟩, ⟨L6, hl2, hx2⟩, hb⟩
      clear hl1 hl2
      have HBS := Lib.hid (HBS.out.trans (hb.mono HBS.out.size))
      have HM1 := Lib.hid (HM1.out.below hb)
      have HN1 := Lib.hid (HN1.out.below hb)
      have HM3 := Lib.hid (HM3.out.below hb)
      have HN3 := Lib.hid (HN3.out.below hb)
      have HM5 := Lib.hid hx1
      have HN5 := Lib.hid hx2
      clear hx1 hx2 hb
      refine hK.out _ _ HBS.out (fun hHeld => ?_)
      clear hK K
      try dsimp only [Act.put]
      try simp only [List.setIfInBounds_toArray, List.set_cons_zero, List.set_cons_succ]
      exact K_1_3_5.out _ _ _ _ _ _ _ _ _ _ _ _ _ _ _ _ _ _ _ _ _ _ _ _ _ HBS.out HM1.out HN1.out HM3.out HN3.out HM5.out HN5.out
    · skip
      go_simp
      have hk := qbox wn
      have hb := b1 wn (.cells #[.slice none 0 0, .slice none 0 0] 32)
      obtain ⟨g6, hg6⟩ : ∃ g, wn.heap.size = g := ⟨_, rfl⟩
      have f6 : wc.heap.size ≤ wn.heap.size := HBS.out.size
      rw [hg6] at f6
      have HBS := Lib.hid (HBS.out.trans (hb.mono HBS.out.size))
      have HM1 := Lib.hid (HM1.out.below hb)
      have HN1 := Lib.hid (HN1.out.below hb)
      have HM3 := Lib.hid (HM3.out.below hb)
      have HN3 := Lib.hid (HN3.out.below hb)
      obtain ⟨wn, hwm⟩ : ∃ W, wn.alloc (.cells #[.slice none 0 0, .slice none 0 0] 32) = W := ⟨_, rfl⟩
      rw [hwm] at hk HBS HM1 HN1 HM3 HN3
      rw [hg6] at hk ⊢
      rw [hwm]
      have HK6 := Lib.hid hk
      clear hk hb hg6 hwm
      refine hK.out _ _ HBS.out (fun hHeld => ?_)
      clear hK K
      try dsimp only [Act.put]
      try simp only [List.setIfInBounds_toArray, List.set_cons_zero, List.set_cons_succ]
      exact K_1_3_6.out _ _ _ _ _ _ _ _ _ _ _ _ _ _ _ _ _ _ HBS.out HK6.out f6 HM1.out HN1.out HM3.out HN3.out
    · skip
      go_simp
      have hk := qbox wn
      have hb := b1 wn (.cells #[.slice none 0 0, .slice none 0 0] 32)
      obtain ⟨g7, hg7⟩ : ∃ g, wn.heap.size = g := ⟨_, rfl⟩
      have f7 : wc.heap.size ≤ wn.heap.size := HBS.out.size
      rw [hg7] at f7
      have HBS := Lib.hid (HBS.out.trans (hb.mono HBS.out.size))
      have HM1 := Lib.hid (HM1.out.below hb)
      have HN1 := Lib.hid (HN1.out.below hb)
      have HM3 := Lib.hid (HM3.out.below hb)
      have HN3 := Lib.hid (HN3.out.below hb)
      obtain ⟨wn, hwm⟩ : ∃ W, wn.alloc (.cells #[.slice none 0 0, .slice none 0 0] 32) = W := ⟨_, rfl⟩
      rw [hwm] at hk HBS HM1 HN1 HM3 HN3
      rw [hg7] at hk ⊢
      rw [hwm]
      have HK7 := Lib.hid hk
      clear hk hb hg7 hwm
      refine hK.out _ _ HBS.out (fun hHeld => ?_)
      clear hK K
      try dsimp only [Act.put]
      try simp only [List.setIfInBounds_toArray, List.set_cons_zero, List.set_cons_succ]
      exact K_1_3_7.out _ _ _ _ _ _ _ _ _ _ _ _ _ _ _ _ _ _ HBS.out HK7.out f7 HM1.out HN1.out HM3.out HN3.out
    · skip
      go_simp
      have hk := qbox wn
      have hb := b1 wn (.cells #[.slice none 0 0, .slice none 0 0] 32)
      obtain ⟨g8, hg8⟩ : ∃ g, wn.heap.size = g := ⟨_, rfl⟩
      have f8 : wc.heap.size ≤ wn.heap.size := HBS.out.size
      rw [hg8] at f8
      have HBS := Lib.hid (HBS.out.trans (hb.mono HBS.out.size))
      have HM1 := Lib.hid (HM1.out.below hb)
      have HN1 := Lib.hid (HN1.out.below hb)
      have HM3 := Lib.hid (HM3.out.below hb)
      have HN3 := Lib.hid (HN3.out.below hb)
      obtain ⟨wn, hwm⟩ : ∃ W, wn.alloc (.cells #[.slice none 0 0, .slice none 0 0] 32) = W := ⟨_, rfl⟩
      rw [hwm] at hk HBS HM1 HN1 HM3 HN3
      rw [hg8] at hk ⊢
      rw [hwm]
      have HK8 := Lib.hid hk
      clear hk hb hg8 hwm
      refine hK.out _ _ HBS.out (fun hHeld => ?_)
      clear hK K
      try dsimp only [Act.put]
      try simp only [List.setIfInBounds_toArray, List.set_cons_zero, List.set_cons_succ]
      exact K_1_3_8.out _ _ _ _ _ _ _ _ _ _ _ _ _ _ _ _ _ _ HBS.out HK8.out f8 HM1.out HN1.out HM3.out HN3.out
  intro key
  try dsimp only [Act.put] at key
  try simp only [List.setIfInBounds_toArray, List.set_cons_zero, List.set_cons_succ] at key
  have K_1_3 := Lib.hid key
  clear key
  refine memoH (fun a G => ∀ (wn : World) (g6 : Nat), (Below wc.heap.size wc wn) → (Blk wn g6 32 #[.slice none 0 0, .slice none 0 0]) → (wc.heap.size ≤ g6) → G (a.put (some 7) (.pointer (some ⟨g6, 0, none⟩))) wn) 8 #[true, false, true, false, true, false, true, false, false, false, false, false] ?_ ?_
  · try dsimp only [Act.put]
    try simp only [List.setIfInBounds_toArray, List.set_cons_zero, List.set_cons_succ]
    intro wn g6 HBS HK6 f6
    have HBS := Lib.hid HBS
    have HK6 := Lib.hid HK6
    refine wpAnyH_ready (rs := [1, 7, 8]) (by kernel_rfl) (by simp) (AllReadyH.cons (op_of rfl) (fun K hK => ?_) (AllReadyH.cons (op_of rfl) (fun K hK => ?_) (AllReadyH.cons (op_of rfl) (fun K hK => ?_) AllReadyH.nil)))
    · skip
      go_simp
      refine (in4_b A1 A2 X1 X2 n1 c1 n2 c2 _ HL1.out HL2.out ((HR1.out.below HBS.out (Nat.le_refl _)).more HBS.out.size) ((HR2.out.below HBS.out (Nat.le_refl _)).more HBS.out.size) HD1.out HD2.out (by omega) (by omega)).mono ?_
      rintro en wn ⟨B1, i1, e1, B2, i2, e2, rfl, ⟨L1, hl1, hx1⟩, ⟨L2, hl2, hx2⟩, hb⟩
      clear hl1 hl2
      have HBS := Lib.hid (HBS.out.trans (hb.mono HBS.out.size))
      have HK6 := Lib.hid (HK6.out.below hb HK6.out.lt)
      have HM1 := Lib.hid hx1
      have HN1 := Lib.hid hx2
      clear hx1 hx2 hb
      refine hK.out _ _ HBS.out (fun hHeld => ?_)
      clear hK K
      try dsimp only [Act.put]
      try simp only [List.setIfInBounds_toArray, List.set_cons_zero, List.set_cons_succ]
      exact K_1_6.out _ _ _ _ _ _ _ _ _ _ HBS.out HK6.out f6 HM1.out HN1.out
    · skip
      go_simp
      have hk := qbox wn
      have hb := b1 wn (.cells #[.slice none 0 0, .slice none 0 0] 32)
      obtain ⟨g7, hg7⟩ : ∃ g, wn.heap.size = g := ⟨_, rfl⟩
      have o6 : g6 < wn.heap.size := HK6.out.lt
      rw [hg7] at o6
      have d6_7 : g6 ≠ g7 := by omega
      clear o6
      have f7 : wc.heap.size ≤ wn.heap.size := HBS.out.size
      rw [hg7] at f7
      have HBS := Lib.hid (HBS.out.trans (hb.mono HBS.out.size))
      have HK6 := Lib.hid (HK6.out.below hb HK6.out.lt)
      obtain ⟨wn, hwm⟩ : ∃ W, wn.alloc (.cells #[.slice none 0 0, .slice none 0 0] 32) = W := ⟨_, rfl⟩
      rw [hwm] at hk HBS HK6
      rw [hg7] at hk ⊢
      rw [hwm]
      have HK7 := Lib.hid hk
      clear hk hb hg7 hwm
      refine hK.out _ _ HBS.out (fun hHeld => ?_)
      clear hK K
      try dsimp only [Act.put]
      try simp only [List.setIfInBounds_toArray, List.set_cons_zero, List.set_cons_succ]
      exact K_6_7.out _ _ _ HBS.out HK6.out f6 HK7.out f7 d6_7
    · skip
      go_simp
      have hk := qbox wn
      have hb := b1 wn (.cells #[.slice none 0 0, .slice none 0 0] 32)
      obtain ⟨g8, hg8⟩ : ∃ g, wn.heap.size = g := ⟨_, rfl⟩
      have o6 : g6 < wn.heap.size := HK6.out.lt
      rw [hg8] at o6
      have d6_8 : g6 ≠ g8 := by omega
      clear o6
      have f8 : wc.heap.size ≤ wn.heap.size := HBS.out.size
      rw [hg8] at f8
      have HBS := Lib.hid (HBS.out.trans (hb.mono HBS.out.size))
      have HK6 := Lib.hid (HK6.out.below hb HK6.out.lt)
      obtain ⟨wn, hwm⟩ : ∃ W, wn.alloc (.cells #[.slice none 0 0, .slice none 0 0] 32) = W := ⟨_, rfl⟩
      rw [hwm] at hk HBS HK6
      rw [hg8] at hk ⊢
      rw [hwm]
      have HK8 := Lib.hid hk
      clear hk hb hg8 hwm
      refine hK.out _ _ HBS.out (fun hHeld => ?_)
      clear hK K
      try dsimp only [Act.put]
      try simp only [List.setIfInBounds_toArray, List.set_cons_zero, List.set_cons_succ]
      exact K_6_8.out _ _ _ HBS.out HK6.out f6 HK8.out f8 d6_8
  intro key
  try dsimp only [Act.put] at key
  try simp only [List.setIfInBounds_toArray, List.set_cons_zero, List.set_cons_succ] at key
  have K_6 := Lib.hid key
  clear key
  refine memoH (fun a G => ∀ (wn : World) (g7 : Nat), (Below wc.heap.size wc wn) → (Blk wn g7 32 #[.slice none 0 0, .slice none 0 0]) → (wc.heap.size ≤ g7) → G (a.put (some 8) (.pointer (some ⟨g7, 0, none⟩))) wn) 8 #[true, false, true, false, true, false, false, true, false, false, false, false] ?_ ?_
  · try dsimp only [Act.put]
    try simp only [List.setIfInBounds_toArray, List.set_cons_zero, List.set_cons_succ]
    intro wn g7 HBS HK7 f7
    have HBS := Lib.hid HBS
    have HK7 := Lib.hid HK7
    refine wpAnyH_ready (rs := [1, 6, 8]) (by kernel_rfl) (by simp) (AllReadyH.cons (op_of rfl) (fun K hK => ?_) (AllReadyH.cons (op_of rfl) (fun K hK => ?_) (AllReadyH.cons (op_of rfl) (fun K hK => ?_) AllReadyH.nil)))
    · skip
      go_simp
      refine (in4_b A1 A2 X1 X2 n1 c1 n2 c2 _ HL1.out HL2.out ((HR1.out.below HBS.out (Nat.le_refl _)).more HBS.out.size) ((HR2.out.below HBS.out (Nat.le_refl _)).more HBS.out.size) HD1.out HD2.out (by omega) (by omega)).mono ?_
      rintro en wn ⟨B1, i1, e1, B2, i2, e2, rfl, ⟨L1, hl1, hx1⟩, ⟨L2, hl2, hx2⟩, hb⟩
      clear hl1 hl2
      have HBS := Lib.hid (HBS.out.trans (hb.mono HBS.out.size))
      have HK7 := Lib.hid (HK7.out.below hb HK7.out.lt)
      have HM1 := Lib.hid hx1
      have HN1 := Lib.hid hx2
      clear hx1 hx2 hb
      refine hK.out _ _ HBS.out (fun hHeld => ?_)
      clear hK K
      try dsimp only [Act.put]
      try simp only [List.setIfInBounds_toArray, List.set_cons_zero, List.set_cons_succ]
      exact K_1_7.out _ _ _ _ _ _ _ _ _ _ HBS.out HK7.out f7 HM1.out HN1.out
    · skip
      go_simp
      have hk := qbox wn
      have hb := b1 wn (.cells #[.slice none 0 0, .slice none 0 0] 32)
      obtain ⟨g6, hg6⟩ : ∃ g, wn.heap.size = g := ⟨_, rfl⟩
      have o7 : g7 < wn.heap.size := HK7.out.lt
      rw [hg6] at o7
      have d6_7 : g6 ≠ g7 := by omega
      clear o7
      have f6 : wc.heap.size ≤ wn.heap.size := HBS.out.size
      rw [hg6] at f6
      have HBS := Lib.hid (HBS.out.trans (hb.mono HBS.out.size))
      have HK7 := Lib.hid (HK7.out.below hb HK7.out.lt)
      obtain ⟨wn, hwm⟩ : ∃ W, wn.alloc (.cells #[.slice none 0 0, .slice none 0 0] 32) = W := ⟨_, rfl⟩
      rw [hwm] at hk HBS HK7
      rw [hg6] at hk ⊢
      rw [hwm]
      have HK6 := Lib.hid hk
      clear hk hb hg6 hwm
      refine hK.out _ _ HBS.out (fun hHeld => ?_)
      clear hK K
      try dsimp only [Act.put]
      try simp only [List.setIfInBounds_toArray, List.set_cons_zero, List.set_cons_succ]
      exact K_6_7.out _ _ _ HBS.out HK6.out f6 HK7.out f7 d6_7
    · skip
      go_simp
      have hk := qbox wn
      have hb := b1 wn (.cells #[.slice none 0 0, .slice none 0 0] 32)
      obtain ⟨g8, hg8⟩ : ∃ g, wn.heap.size = g := ⟨_, rfl⟩
      have o7 : g7 < wn.heap.size := HK7.out.lt
      rw [hg8] at o7
      have d7_8 : g7 ≠ g8 := by omega
      clear o7
      have f8 : wc.heap.size ≤ wn.heap.size := HBS.out.size
      rw [hg8] at f8
      have HBS := Lib.hid (HBS.out.trans (hb.mono HBS.out.size))
      have HK7 := Lib.hid (HK7.out.below hb HK7.out.lt)
      obtain ⟨wn, hwm⟩ : ∃ W, wn.alloc (.cells #[.slice none 0 0, .slice none 0 0] 32) = W := ⟨_, rfl⟩
      rw [hwm] at hk HBS HK7
      rw [hg8] at hk ⊢
      rw [hwm]
      have HK8 := Lib.hid hk
      clear hk hb hg8 hwm
      refine hK.out _ _ HBS.out (fun hHeld => ?_)
      clear hK K
      try dsimp only [Act.put]
      try simp only [List.setIfInBounds_toArray, List.set_cons_zero, List.set_cons_succ]
      exact K_7_8.out _ _ _ HBS.out HK7.out f7 HK8.out f8 d7_8
  intro key
  try dsimp only [Act.put] at key
  try simp only [List.setIfInBounds_toArray, List.set_cons_zero, List.set_cons_succ] at key
  have K_7 := Lib.hid key
  clear key
  refine memoH (fun a G => ∀ (wn : World) (g8 : Nat), (Below wc.heap.size wc wn) → (Blk wn g8 32 #[.slice none 0 0, .slice none 0 0]) → (wc.heap.size ≤ g8) → G (a.put (some 9) (.pointer (some ⟨g8, 0, none⟩))) wn) 8 #[true, false, true, false, true, false, false, false, true, false, false, false] ?_ ?_
  · try dsimp only [Act.put]
    try simp only [List.setIfInBounds_toArray, List.set_cons_zero, List.set_cons_succ]
    intro wn g8 HBS HK8 f8
    have HBS := Lib.hid HBS
    have HK8 := Lib.hid HK8
    refine wpAnyH_ready (rs := [1, 6, 7]) (by kernel_rfl) (by simp) (AllReadyH.cons (op_of rfl) (fun K hK => ?_) (AllReadyH.cons (op_of rfl) (fun K hK => ?_) (AllReadyH.cons (op_of rfl) (fun K hK => ?_) AllReadyH.nil)))
    · skip
      go_simp
      refine (in4_b A1 A2 X1 X2 n1 c1 n2 c2 _ HL1.out HL2.out ((HR1.out.below HBS.out (Nat.le_refl _)).more HBS.out.size) ((HR2.out.below HBS.out (Nat.le_refl _)).more HBS.out.size) HD1.out HD2.out (by omega) (by omega)).mono ?_
      rintro en wn ⟨B1, i1, e1, B2, i2, e2, rfl, ⟨L1, hl1, hx1⟩, ⟨L2, hl2, hx2⟩, hb⟩
      clear hl1 hl2
      have HBS := Lib.hid (HBS.out.trans (hb.mono HBS.out.size))
      have HK8 := Lib.hid (HK8.out.below hb HK8.out.lt)
      have HM1 := Lib.hid hx1
      have HN1 := Lib.hid hx2
      clear hx1 hx2 hb
      refine hK.out _ _ HBS.out (fun hHeld => ?_)
      clear hK K
      try dsimp only [Act.put]
      try simp only [List.setIfInBounds_toArray, List.set_cons_zero, List.set_cons_succ]
      exact K_1_8.out _ _ _ _ _ _ _ _ _ _ HBS.out HK8.out f8 HM1.out HN1.out
    · skip
      go_simp
      have hk := qbox wn
      have hb := b1 wn (.cells #[.slice none 0 0, .slice none 0 0] 32)
      obtain ⟨g6, hg6⟩ : ∃ g, wn.heap.size = g := ⟨_, rfl⟩
      have o8 : g8 < wn.heap.size := HK8.out.lt
      rw [hg6] at o8
      have d6_8 : g6 ≠ g8 := by omega
      clear o8
      have f6 : wc.heap.size ≤ wn.heap.size := HBS.out.size
      rw [hg6] at f6
      have HBS := Lib.hid (HBS.out.trans (hb.mono HBS.out.size))
      have HK8 := Lib.hid (HK8.out.below hb HK8.out.lt)
      obtain ⟨wn, hwm⟩ : ∃ W, wn.alloc (.cells #[.slice none 0 0, .slice none 0 0] 32) = W := ⟨_, rfl⟩
      rw [hwm] at hk HBS HK8
      rw [hg6] at hk ⊢
      rw [hwm]
      have HK6 := Lib.hid hk
      clear hk hb hg6 hwm
      refine hK.out _ _ HBS.out (fun hHeld => ?_)
      clear hK K
      try dsimp only [Act.put]
      try simp only [List.setIfInBounds_toArray, List.set_cons_zero, List.set_cons_succ]
      exact K_6_8.out _ _ _ HBS.out HK6.out f6 HK8.out f8 d6_8
    · skip
      go_simp
      have hk := qbox wn
      have hb := b1 wn (.cells #[.slice none 0 0, .slice none 0 0] 32)
      obtain ⟨g7, hg7⟩ : ∃ g, wn.heap.size = g := ⟨_, rfl⟩
      have o8 : g8 < wn.heap.size := HK8.out.lt
      rw [hg7] at o8
      have d7_8 : g7 ≠ g8 := by omega
      clear o8
      have f7 : wc.heap.size ≤ wn.heap.size := HBS.out.size
      rw [hg7] at f7
      have HBS := Lib.hid (HBS.out.trans (hb.mono HBS.out.size))
      have HK8 := Lib.hid (HK8.out.below hb HK8.out.lt)
      obtain ⟨wn, hwm⟩ : ∃ W, wn.alloc (.cells #[.slice none 0 0, .slice none 0 0] 32) = W := ⟨_, rfl⟩
      rw [hwm] at hk HBS HK8
      rw [hg7] at hk ⊢
      rw [hwm]
      have HK7 := Lib.hid hk
      clear hk hb hg7 hwm
      refine hK.out _ _ HBS.out (fun hHeld => ?_)
      clear hK K
      try dsimp only [Act.put]
      try simp only [List.setIfInBounds_toArray, List.set_cons_zero, List.set_cons_succ]
      exact K_7_8.out _ _ _ HBS.out HK7.out f7 HK8.out f8 d7_8
  intro key
  try dsimp only [Act.put] at key
  try simp only [List.setIfInBounds_toArray, List.set_cons_zero, List.set_cons_succ] at key
  have K_8 := Lib.hid key
  clear key
  refine memoH (fun a G => ∀ (wn : World) (B1 : Option Addr) (i1 e1 : Nat) (B2 : Option Addr) (i2 e2 L1 L2 : Nat), (Below wc.heap.size wc wn) → (Num wn L1 (.agg #[.slice B1 i1 e1]) (U X1)) → (Num wn L2 (.agg #[.slice B2 i2 e2]) (U X2)) → G (a.put (some 46) (.agg #[.slice B1 i1 e1, .slice B2 i2 e2])) wn) 8 #[true, true, true, false, true, false, false, false, false, false, false, false] ?_ ?_
  · try dsimp only [Act.put]
    try simp only [List.setIfInBounds_toArray, List.set_cons_zero, List.set_cons_succ]
    intro wn B1 i1 e1 B2 i2 e2 L1 L2 HBS HM1 HN1
    have HBS := Lib.hid HBS
    have HM1 := Lib.hid HM1
    have HN1 := Lib.hid HN1
    refine wpAnyH_ready (rs := [3, 6, 7, 8]) (by kernel_rfl) (by simp) (AllReadyH.cons (op_of rfl) (fun K hK => ?_) (AllReadyH.cons (op_of rfl) (fun K hK => ?_) (AllReadyH.cons (op_of rfl) (fun K hK => ?_) (AllReadyH.cons (op_of rfl) (fun K hK => ?_) AllReadyH.nil))))
    · skip
      go_simp
      refine (in4_b A3 A4 X3 X4 n3 c3 n4 c4 _ HL3.out HL4.out ((HR3.out.below HBS.out (Nat.le_refl _)).more HBS.out.size) ((HR4.out.below HBS.out (Nat.le_refl _)).more HBS.out.size) HD3.out HD4.out (by omega) (by omega)).mono ?_
      rintro en wn ⟨B3, i3, e3, B4, i4, e4, rfl, ⟨L3, hl1, hx1⟩, ⟨L4, hl2, hx2⟩, hb⟩
      clear hl1 hl2
      have HBS := Lib.hid (HBS.out.trans (hb.mono HBS.out.size))
      have HM1 := Lib.hid (HM1.out.below hb)
      have HN1 := Lib.hid (HN1.out.below hb)
      have HM3 := Lib.hid hx1
      have HN3 := Lib.hid hx2
      clear hx1 hx2 hb
      refine hK.out _ _ HBS.out (fun hHeld => ?_)
      clear hK K
      try dsimp only [Act.put]
      try simp only [List.setIfInBounds_toArray, List.set_cons_zero, List.set_cons_succ]
      exact K_1_3.out _ _ _ _ _ _ _ _ _ _ _ _ _ _ _ _ _ HBS.out HM1.out HN1.out HM3.out HN3.out
    · skip
      go_simp
      have hk := qbox wn
      have hb := b1 wn (.cells #[.slice none 0 0, .slice none 0 0] 32)
      obtain ⟨g6, hg6⟩ : ∃ g, wn.heap.size = g := ⟨_, rfl⟩
      have f6 : wc.heap.size ≤ wn.heap.size := HBS.out.size
      rw [hg6] at f6
      have HBS := Lib.hid (HBS.out.trans (hb.mono HBS.out.size))
      have HM1 := Lib.hid (HM1.out.below hb)
      have HN1 := Lib.hid (HN1.out.below hb)
      obtain ⟨wn, hwm⟩ : ∃ W, wn.alloc (.cells #[.slice none 0 0, .slice none 0 0] 32) = W := ⟨_, rfl⟩
      rw [hwm] at hk HBS HM1 HN1
      rw [hg6] at hk ⊢
      rw [hwm]
      have HK6 := Lib.hid hk
      clear hk hb hg6 hwm
      refine hK.out _ _ HBS.out (fun hHeld => ?_)
      clear hK K
      try dsimp only [Act.put]
      try simp only [List.setIfInBounds_toArray, List.set_cons_zero, List.set_cons_succ]
      exact K_1_6.out _ _ _ _ _ _ _ _ _ _ HBS.out HK6.out f6 HM1.out HN1.out
    · skip
      go_simp
      have hk := qbox wn
      have hb := b1 wn (.cells #[.slice none 0 0, .slice none 0 0] 32)
      obtain ⟨g7, hg7⟩ : ∃ g, wn.heap.size = g := ⟨_, rfl⟩
      have f7 : wc.heap.size ≤ wn.heap.size := HBS.out.size
      rw [hg7] at f7
      have HBS := Lib.hid (HBS.out.trans (hb.mono HBS.out.size))
      have HM1 := Lib.hid (HM1.out.below hb)
      have HN1 := Lib.hid (HN1.out.below hb)
      obtain ⟨wn, hwm⟩ : ∃ W, wn.alloc (.cells #[.slice none 0 0, .slice none 0 0] 32) = W := ⟨_, rfl⟩
      rw [hwm] at hk HBS HM1 HN1
      rw [hg7] at hk ⊢
      rw [hwm]
      have HK7 := Lib.hid hk
      clear hk hb hg7 hwm
      refine hK.out _ _ HBS.out (fun hHeld => ?_)
      clear hK K
      try dsimp only [Act.put]
      try simp only [List.setIfInBounds_toArray, List.set_cons_zero, List.set_cons_succ]
      exact K_1_7.out _ _ _ _ _ _ _ _ _ _ HBS.out HK7.out f7 HM1.out HN1.out
    · skip
      go_simp
      have hk := qbox wn
      have hb := b1 wn (.cells #[.slice none 0 0, .slice none 0 0] 32)
      obtain ⟨g8, hg8⟩ : ∃ g, wn.heap.size = g := ⟨_, rfl⟩
      have f8 : wc.heap.size ≤ wn.heap.size := HBS.out.size
      rw [hg8] at f8
      have HBS := Lib.hid (HBS.out.trans (hb.mono HBS.out.size))
      have HM1 := Lib.hid (HM1.out.below hb)
      have HN1 := Lib.hid (HN1.out.below hb)
      obtain ⟨wn, hwm⟩ : ∃ W, wn.alloc (.cells #[.slice none 0 0, .slice none 0 0] 32) = W := ⟨_, rfl⟩
      rw [hwm] at hk HBS HM1 HN1
      rw [hg8] at hk ⊢
      rw [hwm]
      have HK8 := Lib.hid hk
      clear hk hb hg8 hwm
      refine hK.out _ _ HBS.out (fun hHeld => ?_)
      clear hK K
      try dsimp only [Act.put]
      try simp only [List.setIfInBounds_toArray, List.set_cons_zero, List.set_cons_succ]
      exact K_1_8.out _ _ _ _ _ _ _ _ _ _ HBS.out HK8.out f8 HM1.out HN1.out
  intro key
  try dsimp only [Act.put] at key
  try simp only [List.setIfInBounds_toArray, List.set_cons_zero, List.set_cons_succ] at key
  have K_1 := Lib.hid key
  clear key
  refine wpAnyH_ready (rs := [1, 6, 7, 8]) (by kernel_rfl) (by simp) (AllReadyH.cons (op_of rfl) (fun K hK => ?_) (AllReadyH.cons (op_of rfl) (fun K hK => ?_) (AllReadyH.cons (op_of rfl) (fun K hK => ?_) (AllReadyH.cons (op_of rfl) (fun K hK => ?_) AllReadyH.nil))))
  · skip
    go_simp
    refine (in4_b A1 A2 X1 X2 n1 c1 n2 c2 _ HL1.out HL2.out ((HR1.out.below HBS.out (Nat.le_refl _)).more HBS.out.size) ((HR2.out.below HBS.out (Nat.le_refl _)).more HBS.out.size) HD1.out HD2.out (by omega) (by omega)).mono ?_
    rintro en wn ⟨B1, i1, e1, B2, i2, e2, rfl, ⟨L1, hl1, hx1⟩, ⟨L2, hl2, hx2⟩, hb⟩
    clear hl1 hl2
    have HBS := Lib.hid (HBS.out.trans (hb.mono HBS.out.size))
    have HM1 := Lib.hid hx1
    have HN1 := Lib.hid hx2
    clear hx1 hx2 hb
    refine hK.out _ _ HBS.out (fun hHeld => ?_)
    clear hK K
    try dsimp only [Act.put]
    try simp only [List.setIfInBounds_toArray, List.set_cons_zero, List.set_cons_succ]
    exact K_1.out _ _ _ _ _ _ _ _ _ HBS.out HM1.out HN1.out
  · skip
    go_simp
    have hk := qbox wn
    have hb := b1 wn (.cells #[.slice none 0 0, .slice none 0 0] 32)
    obtain ⟨g6, hg6⟩ : ∃ g, wn.heap.size = g := ⟨_, rfl⟩
    have f6 : wc.heap.size ≤ wn.heap.size := HBS.out.size
    rw [hg6] at f6
    have HBS := Lib.hid (HBS.out.trans (hb.mono HBS.out.size))
    obtain ⟨wn, hwm⟩ : ∃ W, wn.alloc (.cells #[.slice none 0 0, .slice none 0 0] 32) = W := ⟨_, rfl⟩
    rw [hwm] at hk HBS 
    rw [hg6] at hk ⊢
    rw [hwm]
    have HK6 := Lib.hid hk
    clear hk hb hg6 hwm
    refine hK.out _ _ HBS.out (fun hHeld => ?_)
    clear hK K
    try dsimp only [Act.put]
    try simp only [List.setIfInBounds_toArray, List.set_cons_zero, List.set_cons_succ]
    exact K_6.out _ _ HBS.out HK6.out f6
  · skip
    go_simp
    have hk := qbox wn
    have hb := b1 wn (.cells #[.slice none 0 0, .slice none 0 0] 32)
    obtain ⟨g7, hg7⟩ : ∃ g, wn.heap.size = g := ⟨_, rfl⟩
    have f7 : wc.heap.size ≤ wn.heap.size := HBS.out.size
    rw [hg7] at f7
    have HBS := Lib.hid (HBS.out.trans (hb.mono HBS.out.size))
    obtain ⟨wn, hwm⟩ : ∃ W, wn.alloc (.cells #[.slice none 0 0, .slice none 0 0] 32) = W := ⟨_, rfl⟩
    rw [hwm] at hk HBS 
    rw [hg7] at hk ⊢
    rw [hwm]
    have HK7 := Lib.hid hk
    clear hk hb hg7 hwm
    refine hK.out _ _ HBS.out (fun hHeld => ?_)
    clear hK K
    try dsimp only [Act.put]
    try simp only [List.setIfInBounds_toArray, List.set_cons_zero, List.set_cons_succ]
    exact K_7.out _ _ HBS.out HK7.out f7
  · skip
    go_simp
    have hk := qbox wn
    have hb := b1 wn (.cells #[.slice none 0 0, .slice none 0 0] 32)
    obtain ⟨g8, hg8⟩ : ∃ g, wn.heap.size = g := ⟨_, rfl⟩
    have f8 : wc.heap.size ≤ wn.heap.size := HBS.out.size
    rw [hg8] at f8
    have HBS := Lib.hid (HBS.out.trans (hb.mono HBS.out.size))
    obtain ⟨wn, hwm⟩ : ∃ W, wn.alloc (.cells #[.slice none 0 0, .slice none 0 0] 32) = W := ⟨_, rfl⟩
    rw [hwm] at hk HBS 
    rw [hg8] at hk ⊢
    rw [hwm]
    have HK8 := Lib.hid hk
    clear hk hb hg8 hwm
    refine hK.out _ _ HBS.out (fun hHeld => ?_)
    clear hK K
    try dsimp only [Act.put]
    try simp only [List.setIfInBounds_toArray, List.set_cons_zero, List.set_cons_succ]
    exact K_8.out _ _ HBS.out HK8.out f8

end
end Go.Proofs.YtlnabebjhpdgpaaDoor
