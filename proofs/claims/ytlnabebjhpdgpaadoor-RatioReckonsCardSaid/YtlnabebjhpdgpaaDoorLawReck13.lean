/-
  Sums, differences, products, quotients, order: the last drawn region.
-/
import Derived.Test.YtlnabebjhpdgpaaDoorMK
namespace Go.Proofs.YtlnabebjhpdgpaaDoor
open Go.RowKit
set_option maxRecDepth 100000

section
variable {A1 A2 A3 A4 A5 A6 B1 B2 B3 B4 B5 B6 P1 P2 Aw Ax : Option Addr} {n1 c1 n2 c2 n3 c3 n4 c4 n5 c5 n6 c6 i1 e1 i2 e2 i3 e3 i4 e4 i5 e5 i6 e6 o0 o1 o2 g6 g7 g8 g1 g2 gw gx p1 r1 p2 r2 nw cw nx cx J1 J2 J3 La Lb : Nat} {X1 X2 X3 X4 X5 X6 : List Nat} {cz : Int} {bz : Bool} {wc w0 : World}
variable {t0 t1 t2 t3 t4 t5 t6 t7 t8 t9 t10 t11 t12 t13 t14 t15 t16 t17 t18 t19 t20 t21 t22 t23 t24 t25 t26 t27 t28 t29 t30 t31 t32 t33 t34 t35 t36 t37 t38 t39 t40 t41 t42 t43 t44 t45 t46 t47 t48 t49 t50 t51 t52 t53 t54 t55 t56 t57 t58 t59 t60 t61 t62 t63 t64 t65 t66 t67 t68 t69 t70 t71 t72 t73 t74 t75 t76 t77 t78 t79 t80 t81 t82 t83 t84 t85 t86 t87 t88 t89 t90 t91 t92 t93 t94 t95 t96 t97 t98 t99 t100 t101 t102 t103 t104 t105 t106 t107 t108 t109 t110 t111 t112 t113 t114 t115 t116 t117 t118 t119 t120 t121 t122 t123 t124 t125 t126 t127 t128 t129 t130 t131 t132 t133 t134 t135 t136 t137 t138 t139 t140 t141 t142 t143 t144 t145 t146 t147 t148 t149 t150 t151 t152 t153 t154 t155 t156 t157 t158 t159 t160 t161 t162 t163 t164 t165 t166 t167 t168 t169 t170 t171 t172 t173 t174 t175 t176 t177 t178 t179 t180 t181 t182 t183 t184 t185 t186 t187 t188 t189 t190 t191 t192 t193 t194 t195 t196 t197 t198 t199 t200 t201 t202 t203 t204 t205 t206 : Value}
variable {Q : Exit → Act → World → Prop}

set_option maxHeartbeats 64000000 in
theorem reg13_r (HQ0 : Hid (Blk wc o0 25 #[.slice A1 n1 c1, .slice A2 n2 c2])) (HN1 : Hid (Nr wc (.slice A1 n1 c1) (U X1) 6)) (HN2 : Hid (Nr wc (.slice A2 n2 c2) (U X2) 6)) (hJ1 : J1 = 12) (hJ2 : J2 = J1 + J1 + 1) (hJ3 : J3 = J2 + J2 + 1) (hw0 : wc.cell? ⟨gw, 0, none⟩ = some (.slice Aw nw cw)) (HNW : Hid (Num wc La (.agg #[.slice Aw nw cw]) (U X1 / U X2))) (HLF : Hid (U X1 / U X2 < 65536 ^ J1)) (HLG : Hid (U X1 / U X2 < 4294967296 ^ J1)) (HTAB : Hid (Tab wc))
    (hP : ∀ c a d v w, Q (.panic c) (Act.put a (some d) v) w → Q (.panic c) a w)
    (hQ : ∀ (x199 x200 x201 x202 x203 x204 x205 x206 : Value) (wn : World), Below wc.heap.size wc wn → Q .normal { tmps := #[.agg #[.slice A1 n1 c1, .slice A2 n2 c2], .agg #[.slice A3 n3 c3, .slice A4 n4 c4], .agg #[.slice A5 n5 c5, .slice A6 n6 c6], .pointer (some ⟨o0, 0, none⟩), .pointer (some ⟨o1, 0, none⟩), .pointer (some ⟨o2, 0, none⟩), .bool true, .pointer (some ⟨g6, 0, none⟩), .pointer (some ⟨g7, 0, none⟩), .pointer (some ⟨g8, 0, none⟩), t10, t11, t12, t13, .pointer (some ⟨gw, 0, none⟩), .pointer (some ⟨gx, 0, none⟩), t16, t17, t18, t19, t20, t21, t22, t23, t24, t25, t26, t27, t28, t29, t30, t31, t32, t33, t34, t35, t36, t37, t38, t39, t40, t41, t42, t43, t44, t45, t46, t47, t48, t49, t50, t51, t52, t53, t54, t55, t56, t57, t58, t59, t60, t61, t62, t63, t64, t65, t66, t67, t68, t69, t70, t71, t72, t73, t74, t75, t76, t77, t78, t79, t80, t81, t82, t83, t84, t85, t86, t87, t88, t89, t90, t91, t92, t93, t94, t95, t96, t97, t98, t99, t100, t101, t102, t103, t104, t105, t106, t107, t108, t109, t110, t111, t112, t113, t114, t115, t116, t117, t118, t119, t120, t121, t122, t123, t124, t125, t126, t127, t128, t129, t130, t131, t132, t133, t134, t135, t136, t137, t138, t139, t140, t141, t142, t143, t144, t145, t146, t147, t148, t149, t150, t151, t152, t153, t154, t155, t156, t157, t158, t159, t160, t161, t162, t163, t164, t165, t166, t167, t168, t169, t170, t171, t172, t173, t174, t175, t176, t177, t178, t179, t180, t181, t182, t183, t184, t185, t186, t187, t188, t189, t190, t191, t192, t193, t194, t195, t196, t197, t198, x199, x200, x201, x202, x203, x204, x205, x206], defers := [] } wn) :
    (Code.region 13 ops13 true).wp Tryd.prog Q { tmps := #[.agg #[.slice A1 n1 c1, .slice A2 n2 c2], .agg #[.slice A3 n3 c3, .slice A4 n4 c4], .agg #[.slice A5 n5 c5, .slice A6 n6 c6], .pointer (some ⟨o0, 0, none⟩), .pointer (some ⟨o1, 0, none⟩), .pointer (some ⟨o2, 0, none⟩), .bool false, .pointer (some ⟨g6, 0, none⟩), .pointer (some ⟨g7, 0, none⟩), .pointer (some ⟨g8, 0, none⟩), t10, t11, t12, t13, .pointer (some ⟨gw, 0, none⟩), .pointer (some ⟨gx, 0, none⟩), t16, t17, t18, t19, t20, t21, t22, t23, t24, t25, t26, t27, t28, t29, t30, t31, t32, t33, t34, t35, t36, t37, t38, t39, t40, t41, t42, t43, t44, t45, t46, t47, t48, t49, t50, t51, t52, t53, t54, t55, t56, t57, t58, t59, t60, t61, t62, t63, t64, t65, t66, t67, t68, t69, t70, t71, t72, t73, t74, t75, t76, t77, t78, t79, t80, t81, t82, t83, t84, t85, t86, t87, t88, t89, t90, t91, t92, t93, t94, t95, t96, t97, t98, t99, t100, t101, t102, t103, t104, t105, t106, t107, t108, t109, t110, t111, t112, t113, t114, t115, t116, t117, t118, t119, t120, t121, t122, t123, t124, t125, t126, t127, t128, t129, t130, t131, t132, t133, t134, t135, t136, t137, t138, t139, t140, t141, t142, t143, t144, t145, t146, t147, t148, t149, t150, t151, t152, t153, t154, t155, t156, t157, t158, t159, t160, t161, t162, t163, t164, t165, t166, t167, t168, t169, t170, t171, t172, t173, t174, t175, t176, t177, t178, t179, t180, t181, t182, t183, t184, t185, t186, t187, t188, t189, t190, t191, t192, t193, t194, t195, t196, t197, t198, t199, t200, t201, t202, t203, t204, t205, t206], defers := [] } wc := by
  have y00 := HQ0.out.cell 0
  have y01 := HQ0.out.cell 1
  simp only [List.getElem?_toArray, List.getElem?_cons_zero, List.getElem?_cons_succ] at y00 y01
  have hst : Below wc.heap.size wc wc.drew := (Below.refl _ _).drew
  have HBS := Lib.hid hst
  have HNW := Lib.hid (HNW.out.below hst)
  refine wp_region_held_drew (S := fun W => Below wc.heap.size wc W) (by kernel_rfl) hst (fun hHeld => ?_)
  change wpAnyH _ _ ops13 _ _ 9 #[false, false, false, false, false, false, false, false, false] _ _
  obtain ⟨wn, hwn⟩ : ∃ W, wc.drew = W := ⟨_, rfl⟩
  rw [hwn] at HBS hHeld HNW
  rw [hwn]
  clear hwn
  refine wpAnyH_take (i := 0) (v := ?_) (op_of rfl) (by kernel_rfl) (by kernel_rfl) (by kernel_rfl) (fun _ _ _ => hP _ _ _ _ _) (Or.inl ⟨by rfl, fun W hS => ?_⟩) (by assumption) ?_
  rotate_left
  · dsimp only at hS
    have z0 := (hS.cell (World.block_lt_of_cell? _ _ y00)).trans y00
    have z1 := (hS.cell (World.block_lt_of_cell? _ _ y01)).trans y01
    go_simp
    try with_reducible rfl
  try dsimp only [Act.put]
  try simp only [List.setIfInBounds_toArray, List.set_cons_zero, List.set_cons_succ]
  refine wpAnyH_take (i := 2) (v := ?_) (op_of rfl) (by kernel_rfl) (by kernel_rfl) (by kernel_rfl) (fun _ _ _ => hP _ _ _ _ _) (Or.inl ⟨by rfl, fun W hS => ?_⟩) (by assumption) ?_
  rotate_left
  · dsimp only at hS
    have z0 := (hS.cell (World.block_lt_of_cell? _ _ hw0)).trans hw0
    go_simp
    try with_reducible rfl
  try dsimp only [Act.put]
  try simp only [List.setIfInBounds_toArray, List.set_cons_zero, List.set_cons_succ]
  refine wpAnyH_ready (rs := [1]) (by kernel_rfl) (by simp) (AllReadyH.cons (op_of rfl) (fun K hK => ?_) AllReadyH.nil)
  go_simp
  refine (ratioFloor_r (M := 6) wn (HN1.out.below HBS.out) (HN2.out.below HBS.out) (by omega)).mono ?_
  rintro en wn ⟨fl, rfl, hf, hb⟩
  have HBS := Lib.hid (HBS.out.trans (hb.mono HBS.out.size))
  have HNW := Lib.hid (HNW.out.below hb)
  have HFL := Lib.hid hf
  clear hf hb
  refine hK.out _ _ HBS.out (fun hHeld => ?_)
  clear hK K
  try dsimp only [Act.put]
  try simp only [List.setIfInBounds_toArray, List.set_cons_zero, List.set_cons_succ]
  refine wpAnyH_ready (rs := [3]) (by kernel_rfl) (by simp) (AllReadyH.cons (op_of rfl) (fun K hK => ?_) AllReadyH.nil)
  go_simp
  refine (out_num (j := J1) wn HNW.out HLF.out (by omega)).mono ?_
  rintro en wn ⟨fo, rfl, hf, hb⟩
  have HBS := Lib.hid (HBS.out.trans (hb.mono HBS.out.size))
  have HNW := Lib.hid (HNW.out.below hb)
  have HFL := Lib.hid (HFL.out.below hb)
  have HFO := Lib.hid hf
  clear hf hb
  refine hK.out _ _ HBS.out (fun hHeld => ?_)
  clear hK K
  try dsimp only [Act.put]
  try simp only [List.setIfInBounds_toArray, List.set_cons_zero, List.set_cons_succ]
  refine wpAnyH_ready (rs := [4]) (by kernel_rfl) (by simp) (AllReadyH.cons (op_of rfl) (fun K hK => ?_) AllReadyH.nil)
  go_simp
  refine (same_nv (j := J1) wn HFL.out HFO.out HLG.out (by omega)).mono ?_
  rintro en wn ⟨rfl, hb⟩
  have HBS := Lib.hid (HBS.out.trans (hb.mono HBS.out.size))
  clear hb HFO HFL HNW
  refine hK.out _ _ HBS.out (fun hHeld => ?_)
  clear hK K
  try dsimp only [Act.put]
  try simp only [List.setIfInBounds_toArray, List.set_cons_zero, List.set_cons_succ]
  refine wpAnyH_take (i := 5) (v := ?_) (op_of rfl) (by kernel_rfl) (by kernel_rfl) (by kernel_rfl) (fun _ _ _ => hP _ _ _ _ _) (Or.inl ⟨by rfl, fun W hS => ?_⟩) (by assumption) ?_
  rotate_left
  · dsimp only at hS
    go_simp
    try with_reducible rfl
  try dsimp only [Act.put]
  try simp only [List.setIfInBounds_toArray, List.set_cons_zero, List.set_cons_succ]
  refine wpAnyH_ready (rs := [6]) (by kernel_rfl) (by simp) (AllReadyH.cons (op_of rfl) (fun K hK => ?_) AllReadyH.nil)
  go_simp
  refine (alive4_any wn (HTAB.out.below HBS.out)).mono ?_
  rintro en wn ⟨rfl, hb⟩
  have HBS := Lib.hid (HBS.out.trans (hb.mono HBS.out.size))
  clear hb
  refine hK.out _ _ HBS.out (fun hHeld => ?_)
  clear hK K
  try dsimp only [Act.put]
  try simp only [List.setIfInBounds_toArray, List.set_cons_zero, List.set_cons_succ]
  refine wpAnyH_take (i := 7) (v := ?_) (op_of rfl) (by kernel_rfl) (by kernel_rfl) (by kernel_rfl) (fun _ _ _ => hP _ _ _ _ _) (Or.inl ⟨by rfl, fun W hS => ?_⟩) (by assumption) ?_
  rotate_left
  · dsimp only at hS
    go_simp
    try with_reducible rfl
  try dsimp only [Act.put]
  try simp only [List.setIfInBounds_toArray, List.set_cons_zero, List.set_cons_succ]
  refine wpAnyH_ready (rs := [8]) (by kernel_rfl) (by simp) (AllReadyH.cons (op_of rfl) (fun K hK => ?_) AllReadyH.nil)
  go_simp
  refine hK.out _ _ HBS.out (fun hHeld => ?_)
  clear hK K
  try dsimp only [Act.put]
  try simp only [List.setIfInBounds_toArray, List.set_cons_zero, List.set_cons_succ]
  refine wpAnyH_done (by kernel_rfl) ?_ _
  exact hQ _ _ _ _ _ _ _ _ _ HBS.out

end
end Go.Proofs.YtlnabebjhpdgpaaDoor
