/-
  SaidStatePuts, part 23 of 26: what the theorem statePuts_holds reaches.
-/
import Derived.Test.YtfoellhoaflofaaGreatP22
namespace Go.Proofs.YtfoellhoaflofaaGreat
open Go.RowKit
set_option maxRecDepth 100000
section
variable {t0 t1 t2 t3 t4 t5 t6 t7 t8 t9 t10 t11 t12 t13 t14 t15 t16 t17 t18 t19 t20 t21 t22 t23 t24 t25 t26 t27 t28 t29 t30 t31 t32 t33 t34 t35 t36 t37 t38 t39 t40 t41 t42 t43 t44 t45 t46 t47 t48 t49 t50 t51 t52 t53 t54 t55 t56 t57 t58 t59 t60 t61 t62 t63 t64 t65 t66 t67 t68 t69 t70 t71 t72 t73 t74 t75 t76 t77 t78 t79 t80 t81 t82 t83 t84 t85 t86 t87 t88 t89 t90 t91 t92 t93 t94 t95 t96 t97 t98 t99 t100 t101 t102 t103 t104 t105 t106 t107 t108 t109 t110 t111 t112 t113 t114 t115 t116 t117 t118 t119 t120 t121 t122 t123 t124 t125 t126 t127 t128 t129 t130 t131 t132 t133 t134 t135 t136 t137 t138 t139 t140 t141 t142 t143 t144 t145 t146 t147 t148 t149 t150 t151 t152 t153 t154 t155 t156 t157 t158 t159 t160 t161 t162 t163 t164 t165 t166 t167 t168 t169 t170 t171 t172 t173 t174 t175 t176 t177 t178 t179 t180 t181 t182 t183 t184 t185 t186 t187 t188 t189 t190 t191 t192 t193 t194 t195 t196 t197 t198 t199 t200 t201 t202 t203 t204 t205 t206 t207 t208 t209 t210 t211 t212 t213 t214 t215 t216 t217 t218 t219 t220 t221 t222 t223 t224 t225 t226 t227 t228 t229 t230 t231 t232 t233 t234 t235 t236 t237 t238 t239 t240 t241 t242 t243 t244 t245 t246 t247 t248 t249 t250 : Value}
variable {Q : Exit → Act → World → Prop}
def ops14ds : { o : Array Oper // (match Go.Func.body Tryz.f4 with | some c => regionOf14 c 4 | none => none) = some o } := ⟨_, rfl⟩
def ops14d : Array Oper := ops14ds.1
set_option maxHeartbeats 64000000 in
theorem reg14_4 {w wc : World} {S : Sv14} {A0 A1 A2 A3 A4 : Option Addr} {n0 n1 n2 n3 n4 c0 c1 c2 c3 c4 : Nat} {sq : Int} {pc : Bool} {pt : Tk14} {ph : Th14} {pl : Lk14} {i : Int} (hlp : Lp14 w S A0 A1 A2 A3 A4 n0 n1 n2 n3 n4 c0 c1 c2 c3 c4 sq pc pt ph pl wc)
    (hP : ∀ c a d v w, Q (.panic c) (Act.put a (some d) v) w → Q (.panic c) a w)
    (hQ : ∀ (x45 x46 x47 x48 : Value) (g4 g5 g6 g7 : Nat) (wn : World), Below wc.heap.size wc wn → Vb14 wn g4 S [g4, g5, g6, g7] → Vb14 wn g5 S [g4, g5, g6, g7] → Vb14 wn g6 S [g4, g5, g6, g7] → Vb14 wn g7 S [g4, g5, g6, g7] → wc.heap.size ≤ g4 → wc.heap.size ≤ g5 → wc.heap.size ≤ g6 → wc.heap.size ≤ g7 → g4 ≠ g5 → g4 ≠ g6 → g4 ≠ g7 → g5 ≠ g6 → g5 ≠ g7 → g6 ≠ g7 → Q .normal { tmps := #[t0, t1, t2, .pointer (some ⟨w.heap.size, 0, none⟩), t4, t5, t6, t7, t8, t9, t10, (.pointer (some ⟨g4, 0, none⟩)), (.pointer (some ⟨g5, 0, none⟩)), (.pointer (some ⟨g6, 0, none⟩)), (.pointer (some ⟨g7, 0, none⟩)), t15, t16, t17, t18, t19, t20, t21, t22, t23, t24, t25, t26, t27, t28, t29, t30, t31, t32, t33, t34, t35, t36, t37, t38, t39, t40, t41, t42, t43, t44, x45, x46, x47, x48, t49, t50, t51, t52, t53, t54, t55, t56, t57, t58, t59, t60, t61, t62, t63, t64, t65, t66, t67, t68, t69, t70, t71, t72, t73, t74, t75, t76, t77, t78, t79, t80, t81, t82, t83, t84, t85, t86, t87, t88, t89, t90, t91, t92, t93, t94, t95, t96, t97, t98, t99, t100, t101, t102, t103, t104, t105, t106, t107, t108, t109, t110, t111, t112, t113, t114, t115, t116, t117, t118, t119, t120, t121, t122, t123, t124, t125, t126, t127, t128, t129, t130, t131, t132, t133, t134, t135, t136, t137, t138, t139, t140, t141, t142, t143, t144, t145, t146, t147, t148, t149, t150, t151, t152, t153, t154, t155, t156, t157, t158, t159, t160, t161, t162, t163, t164, t165, t166, t167, t168, t169, t170, t171, t172, t173, t174, t175, t176, t177, t178, t179, t180, t181, t182, t183, t184, t185, t186, t187, t188, t189, t190, t191, t192, t193, t194, t195, t196, t197, t198, t199, t200, t201, t202, t203, t204, t205, t206, t207, t208, t209, t210, t211, t212, t213, t214, t215, t216, t217, t218, t219, t220, t221, t222, t223, t224, t225, t226, t227, t228, t229, t230, t231, t232, t233, t234, t235, t236, t237, t238, t239, t240, t241, t242, t243, t244, t245, t246, t247, t248, t249, t250], defers := [] } wn) :
    (Code.region 4 ops14d true).wp Tryz.prog Q { tmps := #[t0, t1, t2, .pointer (some ⟨w.heap.size, 0, none⟩), t4, t5, t6, t7, t8, t9, t10, t11, t12, t13, t14, t15, t16, t17, t18, t19, t20, t21, t22, t23, t24, t25, t26, t27, t28, t29, t30, t31, t32, t33, t34, t35, t36, t37, t38, t39, t40, t41, t42, t43, t44, t45, t46, t47, t48, t49, t50, t51, t52, t53, t54, t55, t56, t57, t58, t59, t60, t61, t62, t63, t64, t65, t66, t67, t68, t69, t70, t71, t72, t73, t74, t75, t76, t77, t78, t79, t80, t81, t82, t83, t84, t85, t86, t87, t88, t89, t90, t91, t92, t93, t94, t95, t96, t97, t98, t99, t100, t101, t102, t103, t104, t105, t106, t107, t108, t109, t110, t111, t112, t113, t114, t115, t116, t117, t118, t119, t120, t121, t122, t123, t124, t125, t126, t127, t128, t129, t130, t131, t132, t133, t134, t135, t136, t137, t138, t139, t140, t141, t142, t143, t144, t145, t146, t147, t148, t149, t150, t151, t152, t153, t154, t155, t156, t157, t158, t159, t160, t161, t162, t163, t164, t165, t166, t167, t168, t169, t170, t171, t172, t173, t174, t175, t176, t177, t178, t179, t180, t181, t182, t183, t184, t185, t186, t187, t188, t189, t190, t191, t192, t193, t194, t195, t196, t197, t198, t199, t200, t201, t202, t203, t204, t205, t206, t207, t208, t209, t210, t211, t212, t213, t214, t215, t216, t217, t218, t219, t220, t221, t222, t223, t224, t225, t226, t227, t228, t229, t230, t231, t232, t233, t234, t235, t236, t237, t238, t239, t240, t241, t242, t243, t244, t245, t246, t247, t248, t249, t250], defers := [] } wc := by
  have HLP := Lib.hid hlp
  clear hlp
  have hst : Below wc.heap.size wc wc.drew := (Below.refl _ _).drew
  have HBS := Lib.hid hst
  refine wp_region_held_drew (S := fun W => Below wc.heap.size wc W) (by kernel_rfl) hst (fun hHeld => ?_)
  change wpAnyH _ _ ops14d _ _ 12 #[false, false, false, false, false, false, false, false, false, false, false, false] _ _
  obtain ⟨wn, hwn⟩ : ∃ W, wc.drew = W := ⟨_, rfl⟩
  rw [hwn] at HBS hHeld
  rw [hwn]
  clear hwn hst
  refine tkp hP 0 (v := ?_) (fun W hS => ?_) ?_
  rotate_left
  · try dsimp only at hS
    have z0 := (HLP.out.step hS).x.cell 0
    have z1 := (HLP.out.step hS).x.cell 1
    have z2 := (HLP.out.step hS).x.cell 2
    have z3 := (HLP.out.step hS).x.cell 3
    have z4 := (HLP.out.step hS).x.cell 4
    have z5 := (HLP.out.step hS).x.cell 5
    go_simp
    try with_reducible rfl
  (try dsimp only [Act.put]); try simp only [pt1, pt2, pt3]
  refine tkp hP 1 (v := ?_) (fun W hS => ?_) ?_
  rotate_left
  · try dsimp only at hS
    have z0 := (HLP.out.step hS).x.cell 0
    have z1 := (HLP.out.step hS).x.cell 1
    have z2 := (HLP.out.step hS).x.cell 2
    have z3 := (HLP.out.step hS).x.cell 3
    have z4 := (HLP.out.step hS).x.cell 4
    have z5 := (HLP.out.step hS).x.cell 5
    go_simp
    try with_reducible rfl
  (try dsimp only [Act.put]); try simp only [pt1, pt2, pt3]
  refine tkp hP 2 (v := ?_) (fun W hS => ?_) ?_
  rotate_left
  · try dsimp only at hS
    have z0 := (HLP.out.step hS).x.cell 0
    have z1 := (HLP.out.step hS).x.cell 1
    have z2 := (HLP.out.step hS).x.cell 2
    have z3 := (HLP.out.step hS).x.cell 3
    have z4 := (HLP.out.step hS).x.cell 4
    have z5 := (HLP.out.step hS).x.cell 5
    go_simp
    try with_reducible rfl
  (try dsimp only [Act.put]); try simp only [pt1, pt2, pt3]
  refine tkp hP 3 (v := ?_) (fun W hS => ?_) ?_
  rotate_left
  · try dsimp only at hS
    have z0 := (HLP.out.step hS).x.cell 0
    have z1 := (HLP.out.step hS).x.cell 1
    have z2 := (HLP.out.step hS).x.cell 2
    have z3 := (HLP.out.step hS).x.cell 3
    have z4 := (HLP.out.step hS).x.cell 4
    have z5 := (HLP.out.step hS).x.cell 5
    go_simp
    try with_reducible rfl
  (try dsimp only [Act.put]); try simp only [pt1, pt2, pt3]
  refine memo (fun a G => ∀ (wn : World) (g4 g5 g6 g7 : Nat), (Wk14 S i pc pt ph pl wc wn [g4, g5, g6, g7] []) → G ((((a.put (some 11) (.pointer (some ⟨g4, 0, none⟩))).put (some 12) (.pointer (some ⟨g5, 0, none⟩))).put (some 13) (.pointer (some ⟨g6, 0, none⟩))).put (some 14) (.pointer (some ⟨g7, 0, none⟩))) wn) 4 #[true, true, true, true, true, true, true, true, false, false, false, false] ?_ ?_
  · (try dsimp only [Act.put]); try simp only [pt1, pt2, pt3]
    intro wn g4 g5 g6 g7 HW
    have HW := Lib.hid HW
    obtain ⟨hB, hZ, hR⟩ := HW.out
    have HBS := Lib.hid hB
    have HZ := Lib.hid hZ
    clear HW hB hZ hR
    have HN0 := Lib.hid HZ.out.1
    have HK4 := Lib.hid (HZ.out.2 g4 (by simp)).2
    have f4 := (HZ.out.2 g4 (by simp)).1
    have HK5 := Lib.hid (HZ.out.2 g5 (by simp)).2
    have f5 := (HZ.out.2 g5 (by simp)).1
    have HK6 := Lib.hid (HZ.out.2 g6 (by simp)).2
    have f6 := (HZ.out.2 g6 (by simp)).1
    have HK7 := Lib.hid (HZ.out.2 g7 (by simp)).2
    have f7 := (HZ.out.2 g7 (by simp)).1
    have d4_5 : g4 ≠ g5 := by have h := HN0.out; simp at h; omega
    have d4_6 : g4 ≠ g6 := by have h := HN0.out; simp at h; omega
    have d4_7 : g4 ≠ g7 := by have h := HN0.out; simp at h; omega
    have d5_6 : g5 ≠ g6 := by have h := HN0.out; simp at h; omega
    have d5_7 : g5 ≠ g7 := by have h := HN0.out; simp at h; omega
    have d6_7 : g6 ≠ g7 := by have h := HN0.out; simp at h; omega
    clear HN0 HZ
    refine rdy 8 (fun K hK => ?_)
    have hsa := (HLP.out.step HBS.out).s
    have k0 := HK4.out.cell 0
    have y0 := HK4.out.frozen 0
    have k1 := HK4.out.cell 1
    have y1 := HK4.out.frozen 1
    have k2 := HK4.out.cell 2
    have y2 := HK4.out.frozen 2
    have k3 := HK4.out.cell 3
    have y3 := HK4.out.frozen 3
    have k4 := HK4.out.cell 4
    have y4 := HK4.out.frozen 4
    have k5 := HK4.out.cell 5
    have y5 := HK4.out.frozen 5
    simp only [List.getElem?_toArray, List.getElem?_cons_zero, List.getElem?_cons_succ] at k0 k1 k2 k3 k4 k5
    go_simp
    have hw6 : ((((((wn.setCell ⟨g4, 0, none⟩ (.slice A0 n0 c0)).setCell ⟨g4, 1, none⟩ (.slice A1 n1 c1)).setCell ⟨g4, 2, none⟩ (.slice A2 n2 c2)).setCell ⟨g4, 3, none⟩ (.slice A3 n3 c3)).setCell ⟨g4, 4, none⟩ (.slice A4 n4 c4)).setCell ⟨g4, 5, none⟩ (.int .i64 sq)) = put6 wn g4 A0 A1 A2 A3 A4 n0 n1 n2 n3 n4 c0 c1 c2 c3 c4 sq := rfl
    have HBS := Lib.hid (put6_below HBS.out f4 A0 A1 A2 A3 A4 n0 n1 n2 n3 n4 c0 c1 c2 c3 c4 sq)
    have hap : ∀ h ∈ [g4, g5, g6, g7], Ap14 h S A0 A1 A2 A3 A4 := by
      intro h hh
      refine Ap14.of_sa HLP.out.s ?_
      simp at hh
      omega
    have hv : Vb14 (put6 wn g4 A0 A1 A2 A3 A4 n0 n1 n2 n3 n4 c0 c1 c2 c3 c4 sq) g4 S [g4, g5, g6, g7] := ⟨A0, A1, A2, A3, A4, n0, n1, n2, n3, n4, c0, c1, c2, c3, c4, sq, HK4.out.put6 A0 A1 A2 A3 A4 n0 n1 n2 n3 n4 c0 c1 c2 c3 c4 sq, hsa.put6 (hap _ (by simp)) A0 A1 A2 A3 A4 n0 n1 n2 n3 n4 c0 c1 c2 c3 c4 sq, hap⟩
    have HK5 := Lib.hid (HK5.out.put6_far (g := g4) (by omega) A0 A1 A2 A3 A4 n0 n1 n2 n3 n4 c0 c1 c2 c3 c4 sq)
    have HK6 := Lib.hid (HK6.out.put6_far (g := g4) (by omega) A0 A1 A2 A3 A4 n0 n1 n2 n3 n4 c0 c1 c2 c3 c4 sq)
    have HK7 := Lib.hid (HK7.out.put6_far (g := g4) (by omega) A0 A1 A2 A3 A4 n0 n1 n2 n3 n4 c0 c1 c2 c3 c4 sq)
    have HV4 := Lib.hid hv
    rw [hw6]
    obtain ⟨wn, hwm⟩ : ∃ W, put6 wn g4 A0 A1 A2 A3 A4 n0 n1 n2 n3 n4 c0 c1 c2 c3 c4 sq = W := ⟨_, rfl⟩
    rw [hwm] at HBS HV4 HK5 HK6 HK7
    rw [hwm]
    clear hwm hw6 hv hsa hap k0 y0 k1 y1 k2 y2 k3 y3 k4 y4 k5 y5 HK4
    refine hK.out _ _ HBS.out (fun hHeld => ?_)
    clear hK K
    (try dsimp only [Act.put]); try simp only [pt1, pt2, pt3]
    refine rdy 9 (fun K hK => ?_)
    have hsa := (HLP.out.step HBS.out).s
    have k0 := HK5.out.cell 0
    have y0 := HK5.out.frozen 0
    have k1 := HK5.out.cell 1
    have y1 := HK5.out.frozen 1
    have k2 := HK5.out.cell 2
    have y2 := HK5.out.frozen 2
    have k3 := HK5.out.cell 3
    have y3 := HK5.out.frozen 3
    have k4 := HK5.out.cell 4
    have y4 := HK5.out.frozen 4
    have k5 := HK5.out.cell 5
    have y5 := HK5.out.frozen 5
    simp only [List.getElem?_toArray, List.getElem?_cons_zero, List.getElem?_cons_succ] at k0 k1 k2 k3 k4 k5
    go_simp
    have hw6 : ((((((wn.setCell ⟨g5, 0, none⟩ (.slice A0 n0 c0)).setCell ⟨g5, 1, none⟩ (.slice A1 n1 c1)).setCell ⟨g5, 2, none⟩ (.slice A2 n2 c2)).setCell ⟨g5, 3, none⟩ (.slice A3 n3 c3)).setCell ⟨g5, 4, none⟩ (.slice A4 n4 c4)).setCell ⟨g5, 5, none⟩ (.int .i64 sq)) = put6 wn g5 A0 A1 A2 A3 A4 n0 n1 n2 n3 n4 c0 c1 c2 c3 c4 sq := rfl
    have HBS := Lib.hid (put6_below HBS.out f5 A0 A1 A2 A3 A4 n0 n1 n2 n3 n4 c0 c1 c2 c3 c4 sq)
    have hap : ∀ h ∈ [g4, g5, g6, g7], Ap14 h S A0 A1 A2 A3 A4 := by
      intro h hh
      refine Ap14.of_sa HLP.out.s ?_
      simp at hh
      omega
    have hv : Vb14 (put6 wn g5 A0 A1 A2 A3 A4 n0 n1 n2 n3 n4 c0 c1 c2 c3 c4 sq) g5 S [g4, g5, g6, g7] := ⟨A0, A1, A2, A3, A4, n0, n1, n2, n3, n4, c0, c1, c2, c3, c4, sq, HK5.out.put6 A0 A1 A2 A3 A4 n0 n1 n2 n3 n4 c0 c1 c2 c3 c4 sq, hsa.put6 (hap _ (by simp)) A0 A1 A2 A3 A4 n0 n1 n2 n3 n4 c0 c1 c2 c3 c4 sq, hap⟩
    have HV4 := Lib.hid (HV4.out.put6 (g := g5) (by simp) (by omega) A0 A1 A2 A3 A4 n0 n1 n2 n3 n4 c0 c1 c2 c3 c4 sq)
    have HK6 := Lib.hid (HK6.out.put6_far (g := g5) (by omega) A0 A1 A2 A3 A4 n0 n1 n2 n3 n4 c0 c1 c2 c3 c4 sq)
    have HK7 := Lib.hid (HK7.out.put6_far (g := g5) (by omega) A0 A1 A2 A3 A4 n0 n1 n2 n3 n4 c0 c1 c2 c3 c4 sq)
    have HV5 := Lib.hid hv
    rw [hw6]
    obtain ⟨wn, hwm⟩ : ∃ W, put6 wn g5 A0 A1 A2 A3 A4 n0 n1 n2 n3 n4 c0 c1 c2 c3 c4 sq = W := ⟨_, rfl⟩
    rw [hwm] at HBS HV4 HV5 HK6 HK7
    rw [hwm]
    clear hwm hw6 hv hsa hap k0 y0 k1 y1 k2 y2 k3 y3 k4 y4 k5 y5 HK5
    refine hK.out _ _ HBS.out (fun hHeld => ?_)
    clear hK K
    (try dsimp only [Act.put]); try simp only [pt1, pt2, pt3]
    refine rdy 10 (fun K hK => ?_)
    have hsa := (HLP.out.step HBS.out).s
    have k0 := HK6.out.cell 0
    have y0 := HK6.out.frozen 0
    have k1 := HK6.out.cell 1
    have y1 := HK6.out.frozen 1
    have k2 := HK6.out.cell 2
    have y2 := HK6.out.frozen 2
    have k3 := HK6.out.cell 3
    have y3 := HK6.out.frozen 3
    have k4 := HK6.out.cell 4
    have y4 := HK6.out.frozen 4
    have k5 := HK6.out.cell 5
    have y5 := HK6.out.frozen 5
    simp only [List.getElem?_toArray, List.getElem?_cons_zero, List.getElem?_cons_succ] at k0 k1 k2 k3 k4 k5
    go_simp
    have hw6 : ((((((wn.setCell ⟨g6, 0, none⟩ (.slice A0 n0 c0)).setCell ⟨g6, 1, none⟩ (.slice A1 n1 c1)).setCell ⟨g6, 2, none⟩ (.slice A2 n2 c2)).setCell ⟨g6, 3, none⟩ (.slice A3 n3 c3)).setCell ⟨g6, 4, none⟩ (.slice A4 n4 c4)).setCell ⟨g6, 5, none⟩ (.int .i64 sq)) = put6 wn g6 A0 A1 A2 A3 A4 n0 n1 n2 n3 n4 c0 c1 c2 c3 c4 sq := rfl
    have HBS := Lib.hid (put6_below HBS.out f6 A0 A1 A2 A3 A4 n0 n1 n2 n3 n4 c0 c1 c2 c3 c4 sq)
    have hap : ∀ h ∈ [g4, g5, g6, g7], Ap14 h S A0 A1 A2 A3 A4 := by
      intro h hh
      refine Ap14.of_sa HLP.out.s ?_
      simp at hh
      omega
    have hv : Vb14 (put6 wn g6 A0 A1 A2 A3 A4 n0 n1 n2 n3 n4 c0 c1 c2 c3 c4 sq) g6 S [g4, g5, g6, g7] := ⟨A0, A1, A2, A3, A4, n0, n1, n2, n3, n4, c0, c1, c2, c3, c4, sq, HK6.out.put6 A0 A1 A2 A3 A4 n0 n1 n2 n3 n4 c0 c1 c2 c3 c4 sq, hsa.put6 (hap _ (by simp)) A0 A1 A2 A3 A4 n0 n1 n2 n3 n4 c0 c1 c2 c3 c4 sq, hap⟩
    have HV4 := Lib.hid (HV4.out.put6 (g := g6) (by simp) (by omega) A0 A1 A2 A3 A4 n0 n1 n2 n3 n4 c0 c1 c2 c3 c4 sq)
    have HV5 := Lib.hid (HV5.out.put6 (g := g6) (by simp) (by omega) A0 A1 A2 A3 A4 n0 n1 n2 n3 n4 c0 c1 c2 c3 c4 sq)
    have HK7 := Lib.hid (HK7.out.put6_far (g := g6) (by omega) A0 A1 A2 A3 A4 n0 n1 n2 n3 n4 c0 c1 c2 c3 c4 sq)
    have HV6 := Lib.hid hv
    rw [hw6]
    obtain ⟨wn, hwm⟩ : ∃ W, put6 wn g6 A0 A1 A2 A3 A4 n0 n1 n2 n3 n4 c0 c1 c2 c3 c4 sq = W := ⟨_, rfl⟩
    rw [hwm] at HBS HV4 HV5 HV6 HK7
    rw [hwm]
    clear hwm hw6 hv hsa hap k0 y0 k1 y1 k2 y2 k3 y3 k4 y4 k5 y5 HK6
    refine hK.out _ _ HBS.out (fun hHeld => ?_)
    clear hK K
    (try dsimp only [Act.put]); try simp only [pt1, pt2, pt3]
    refine rdy 11 (fun K hK => ?_)
    have hsa := (HLP.out.step HBS.out).s
    have k0 := HK7.out.cell 0
    have y0 := HK7.out.frozen 0
    have k1 := HK7.out.cell 1
    have y1 := HK7.out.frozen 1
    have k2 := HK7.out.cell 2
    have y2 := HK7.out.frozen 2
    have k3 := HK7.out.cell 3
    have y3 := HK7.out.frozen 3
    have k4 := HK7.out.cell 4
    have y4 := HK7.out.frozen 4
    have k5 := HK7.out.cell 5
    have y5 := HK7.out.frozen 5
    simp only [List.getElem?_toArray, List.getElem?_cons_zero, List.getElem?_cons_succ] at k0 k1 k2 k3 k4 k5
    go_simp
    have hw6 : ((((((wn.setCell ⟨g7, 0, none⟩ (.slice A0 n0 c0)).setCell ⟨g7, 1, none⟩ (.slice A1 n1 c1)).setCell ⟨g7, 2, none⟩ (.slice A2 n2 c2)).setCell ⟨g7, 3, none⟩ (.slice A3 n3 c3)).setCell ⟨g7, 4, none⟩ (.slice A4 n4 c4)).setCell ⟨g7, 5, none⟩ (.int .i64 sq)) = put6 wn g7 A0 A1 A2 A3 A4 n0 n1 n2 n3 n4 c0 c1 c2 c3 c4 sq := rfl
    have HBS := Lib.hid (put6_below HBS.out f7 A0 A1 A2 A3 A4 n0 n1 n2 n3 n4 c0 c1 c2 c3 c4 sq)
    have hap : ∀ h ∈ [g4, g5, g6, g7], Ap14 h S A0 A1 A2 A3 A4 := by
      intro h hh
      refine Ap14.of_sa HLP.out.s ?_
      simp at hh
      omega
    have hv : Vb14 (put6 wn g7 A0 A1 A2 A3 A4 n0 n1 n2 n3 n4 c0 c1 c2 c3 c4 sq) g7 S [g4, g5, g6, g7] := ⟨A0, A1, A2, A3, A4, n0, n1, n2, n3, n4, c0, c1, c2, c3, c4, sq, HK7.out.put6 A0 A1 A2 A3 A4 n0 n1 n2 n3 n4 c0 c1 c2 c3 c4 sq, hsa.put6 (hap _ (by simp)) A0 A1 A2 A3 A4 n0 n1 n2 n3 n4 c0 c1 c2 c3 c4 sq, hap⟩
    have HV4 := Lib.hid (HV4.out.put6 (g := g7) (by simp) (by omega) A0 A1 A2 A3 A4 n0 n1 n2 n3 n4 c0 c1 c2 c3 c4 sq)
    have HV5 := Lib.hid (HV5.out.put6 (g := g7) (by simp) (by omega) A0 A1 A2 A3 A4 n0 n1 n2 n3 n4 c0 c1 c2 c3 c4 sq)
    have HV6 := Lib.hid (HV6.out.put6 (g := g7) (by simp) (by omega) A0 A1 A2 A3 A4 n0 n1 n2 n3 n4 c0 c1 c2 c3 c4 sq)
    have HV7 := Lib.hid hv
    rw [hw6]
    obtain ⟨wn, hwm⟩ : ∃ W, put6 wn g7 A0 A1 A2 A3 A4 n0 n1 n2 n3 n4 c0 c1 c2 c3 c4 sq = W := ⟨_, rfl⟩
    rw [hwm] at HBS HV4 HV5 HV6 HV7
    rw [hwm]
    clear hwm hw6 hv hsa hap k0 y0 k1 y1 k2 y2 k3 y3 k4 y4 k5 y5 HK7
    refine hK.out _ _ HBS.out (fun hHeld => ?_)
    clear hK K
    (try dsimp only [Act.put]); try simp only [pt1, pt2, pt3]
    refine wpAnyH_done (by kernel_rfl) ?_ _
    exact hQ _ _ _ _ g4 g5 g6 g7 wn HBS.out HV4.out HV5.out HV6.out HV7.out f4 f5 f6 f7 (by omega) (by omega) (by omega) (by omega) (by omega) (by omega)
  intro key
  (try dsimp only [Act.put] at key); try simp only [pt1, pt2, pt3] at key
  have K_4_5_6_7 := Lib.hid key
  clear key
  refine memo (fun a G => ∀ (wn : World) (g4 g5 g6 : Nat), (Wk14 S i pc pt ph pl wc wn [g4, g5, g6] []) → G (((a.put (some 11) (.pointer (some ⟨g4, 0, none⟩))).put (some 12) (.pointer (some ⟨g5, 0, none⟩))).put (some 13) (.pointer (some ⟨g6, 0, none⟩))) wn) 5 #[true, true, true, true, true, true, true, false, false, false, false, false] ?_ ?_
  · (try dsimp only [Act.put]); try simp only [pt1, pt2, pt3]
    intro wn g4 g5 g6 HW
    have HW := Lib.hid HW
    refine rdy 7 (fun K hK => ?_)
    go_simp
    have hw := HW.out.al [g4, g5, g6] []
    refine hK.out _ _ hw.1 (fun hHeld => ?_)
    clear hK K
    (try dsimp only [Act.put]); try simp only [pt1, pt2, pt3]
    exact K_4_5_6_7.out _ _ _ _ _ hw
  intro key
  (try dsimp only [Act.put] at key); try simp only [pt1, pt2, pt3] at key
  have K_4_5_6 := Lib.hid key
  clear key
  refine memo (fun a G => ∀ (wn : World) (g4 g5 g7 : Nat), (Wk14 S i pc pt ph pl wc wn [g4, g5, g7] []) → G (((a.put (some 11) (.pointer (some ⟨g4, 0, none⟩))).put (some 12) (.pointer (some ⟨g5, 0, none⟩))).put (some 14) (.pointer (some ⟨g7, 0, none⟩))) wn) 5 #[true, true, true, true, true, true, false, true, false, false, false, false] ?_ ?_
  · (try dsimp only [Act.put]); try simp only [pt1, pt2, pt3]
    intro wn g4 g5 g7 HW
    have HW := Lib.hid HW
    refine rdy 6 (fun K hK => ?_)
    go_simp
    have hw := HW.out.al [g4, g5] [g7]
    refine hK.out _ _ hw.1 (fun hHeld => ?_)
    clear hK K
    (try dsimp only [Act.put]); try simp only [pt1, pt2, pt3]
    exact K_4_5_6_7.out _ _ _ _ _ hw
  intro key
  (try dsimp only [Act.put] at key); try simp only [pt1, pt2, pt3] at key
  have K_4_5_7 := Lib.hid key
  clear key
  refine memo (fun a G => ∀ (wn : World) (g4 g6 g7 : Nat), (Wk14 S i pc pt ph pl wc wn [g4, g6, g7] []) → G (((a.put (some 11) (.pointer (some ⟨g4, 0, none⟩))).put (some 13) (.pointer (some ⟨g6, 0, none⟩))).put (some 14) (.pointer (some ⟨g7, 0, none⟩))) wn) 5 #[true, true, true, true, true, false, true, true, false, false, false, false] ?_ ?_
  · (try dsimp only [Act.put]); try simp only [pt1, pt2, pt3]
    intro wn g4 g6 g7 HW
    have HW := Lib.hid HW
    refine rdy 5 (fun K hK => ?_)
    go_simp
    have hw := HW.out.al [g4] [g6, g7]
    refine hK.out _ _ hw.1 (fun hHeld => ?_)
    clear hK K
    (try dsimp only [Act.put]); try simp only [pt1, pt2, pt3]
    exact K_4_5_6_7.out _ _ _ _ _ hw
  intro key
  (try dsimp only [Act.put] at key); try simp only [pt1, pt2, pt3] at key
  have K_4_6_7 := Lib.hid key
  clear key
  refine memo (fun a G => ∀ (wn : World) (g5 g6 g7 : Nat), (Wk14 S i pc pt ph pl wc wn [g5, g6, g7] []) → G (((a.put (some 12) (.pointer (some ⟨g5, 0, none⟩))).put (some 13) (.pointer (some ⟨g6, 0, none⟩))).put (some 14) (.pointer (some ⟨g7, 0, none⟩))) wn) 5 #[true, true, true, true, false, true, true, true, false, false, false, false] ?_ ?_
  · (try dsimp only [Act.put]); try simp only [pt1, pt2, pt3]
    intro wn g5 g6 g7 HW
    have HW := Lib.hid HW
    refine rdy 4 (fun K hK => ?_)
    go_simp
    have hw := HW.out.al [] [g5, g6, g7]
    refine hK.out _ _ hw.1 (fun hHeld => ?_)
    clear hK K
    (try dsimp only [Act.put]); try simp only [pt1, pt2, pt3]
    exact K_4_5_6_7.out _ _ _ _ _ hw
  intro key
  (try dsimp only [Act.put] at key); try simp only [pt1, pt2, pt3] at key
  have K_5_6_7 := Lib.hid key
  clear key
  refine memo (fun a G => ∀ (wn : World) (g4 g5 : Nat), (Wk14 S i pc pt ph pl wc wn [g4, g5] []) → G ((a.put (some 11) (.pointer (some ⟨g4, 0, none⟩))).put (some 12) (.pointer (some ⟨g5, 0, none⟩))) wn) 6 #[true, true, true, true, true, true, false, false, false, false, false, false] ?_ ?_
  · (try dsimp only [Act.put]); try simp only [pt1, pt2, pt3]
    intro wn g4 g5 HW
    have HW := Lib.hid HW
    refine wpAnyH_ready (rs := [6, 7]) (by kernel_rfl) (by simp) (rc (fun K hK => ?_) (rc (fun K hK => ?_) AllReadyH.nil))
    · skip
      go_simp
      have hw := HW.out.al [g4, g5] []
      refine hK.out _ _ hw.1 (fun hHeld => ?_)
      clear hK K
      (try dsimp only [Act.put]); try simp only [pt1, pt2, pt3]
      exact K_4_5_6.out _ _ _ _ hw
    · skip
      go_simp
      have hw := HW.out.al [g4, g5] []
      refine hK.out _ _ hw.1 (fun hHeld => ?_)
      clear hK K
      (try dsimp only [Act.put]); try simp only [pt1, pt2, pt3]
      exact K_4_5_7.out _ _ _ _ hw
  intro key
  (try dsimp only [Act.put] at key); try simp only [pt1, pt2, pt3] at key
  have K_4_5 := Lib.hid key
  clear key
  refine memo (fun a G => ∀ (wn : World) (g4 g6 : Nat), (Wk14 S i pc pt ph pl wc wn [g4, g6] []) → G ((a.put (some 11) (.pointer (some ⟨g4, 0, none⟩))).put (some 13) (.pointer (some ⟨g6, 0, none⟩))) wn) 6 #[true, true, true, true, true, false, true, false, false, false, false, false] ?_ ?_
  · (try dsimp only [Act.put]); try simp only [pt1, pt2, pt3]
    intro wn g4 g6 HW
    have HW := Lib.hid HW
    refine wpAnyH_ready (rs := [5, 7]) (by kernel_rfl) (by simp) (rc (fun K hK => ?_) (rc (fun K hK => ?_) AllReadyH.nil))
    · skip
      go_simp
      have hw := HW.out.al [g4] [g6]
      refine hK.out _ _ hw.1 (fun hHeld => ?_)
      clear hK K
      (try dsimp only [Act.put]); try simp only [pt1, pt2, pt3]
      exact K_4_5_6.out _ _ _ _ hw
    · skip
      go_simp
      have hw := HW.out.al [g4, g6] []
      refine hK.out _ _ hw.1 (fun hHeld => ?_)
      clear hK K
      (try dsimp only [Act.put]); try simp only [pt1, pt2, pt3]
      exact K_4_6_7.out _ _ _ _ hw
  intro key
  (try dsimp only [Act.put] at key); try simp only [pt1, pt2, pt3] at key
  have K_4_6 := Lib.hid key
  clear key
  refine memo (fun a G => ∀ (wn : World) (g4 g7 : Nat), (Wk14 S i pc pt ph pl wc wn [g4, g7] []) → G ((a.put (some 11) (.pointer (some ⟨g4, 0, none⟩))).put (some 14) (.pointer (some ⟨g7, 0, none⟩))) wn) 6 #[true, true, true, true, true, false, false, true, false, false, false, false] ?_ ?_
  · (try dsimp only [Act.put]); try simp only [pt1, pt2, pt3]
    intro wn g4 g7 HW
    have HW := Lib.hid HW
    refine wpAnyH_ready (rs := [5, 6]) (by kernel_rfl) (by simp) (rc (fun K hK => ?_) (rc (fun K hK => ?_) AllReadyH.nil))
    · skip
      go_simp
      have hw := HW.out.al [g4] [g7]
      refine hK.out _ _ hw.1 (fun hHeld => ?_)
      clear hK K
      (try dsimp only [Act.put]); try simp only [pt1, pt2, pt3]
      exact K_4_5_7.out _ _ _ _ hw
    · skip
      go_simp
      have hw := HW.out.al [g4] [g7]
      refine hK.out _ _ hw.1 (fun hHeld => ?_)
      clear hK K
      (try dsimp only [Act.put]); try simp only [pt1, pt2, pt3]
      exact K_4_6_7.out _ _ _ _ hw
  intro key
  (try dsimp only [Act.put] at key); try simp only [pt1, pt2, pt3] at key
  have K_4_7 := Lib.hid key
  clear key
  refine memo (fun a G => ∀ (wn : World) (g5 g6 : Nat), (Wk14 S i pc pt ph pl wc wn [g5, g6] []) → G ((a.put (some 12) (.pointer (some ⟨g5, 0, none⟩))).put (some 13) (.pointer (some ⟨g6, 0, none⟩))) wn) 6 #[true, true, true, true, false, true, true, false, false, false, false, false] ?_ ?_
  · (try dsimp only [Act.put]); try simp only [pt1, pt2, pt3]
    intro wn g5 g6 HW
    have HW := Lib.hid HW
    refine wpAnyH_ready (rs := [4, 7]) (by kernel_rfl) (by simp) (rc (fun K hK => ?_) (rc (fun K hK => ?_) AllReadyH.nil))
    · skip
      go_simp
      have hw := HW.out.al [] [g5, g6]
      refine hK.out _ _ hw.1 (fun hHeld => ?_)
      clear hK K
      (try dsimp only [Act.put]); try simp only [pt1, pt2, pt3]
      exact K_4_5_6.out _ _ _ _ hw
    · skip
      go_simp
      have hw := HW.out.al [g5, g6] []
      refine hK.out _ _ hw.1 (fun hHeld => ?_)
      clear hK K
      (try dsimp only [Act.put]); try simp only [pt1, pt2, pt3]
      exact K_5_6_7.out _ _ _ _ hw
  intro key
  (try dsimp only [Act.put] at key); try simp only [pt1, pt2, pt3] at key
  have K_5_6 := Lib.hid key
  clear key
  refine memo (fun a G => ∀ (wn : World) (g5 g7 : Nat), (Wk14 S i pc pt ph pl wc wn [g5, g7] []) → G ((a.put (some 12) (.pointer (some ⟨g5, 0, none⟩))).put (some 14) (.pointer (some ⟨g7, 0, none⟩))) wn) 6 #[true, true, true, true, false, true, false, true, false, false, false, false] ?_ ?_
  · (try dsimp only [Act.put]); try simp only [pt1, pt2, pt3]
    intro wn g5 g7 HW
    have HW := Lib.hid HW
    refine wpAnyH_ready (rs := [4, 6]) (by kernel_rfl) (by simp) (rc (fun K hK => ?_) (rc (fun K hK => ?_) AllReadyH.nil))
    · skip
      go_simp
      have hw := HW.out.al [] [g5, g7]
      refine hK.out _ _ hw.1 (fun hHeld => ?_)
      clear hK K
      (try dsimp only [Act.put]); try simp only [pt1, pt2, pt3]
      exact K_4_5_7.out _ _ _ _ hw
    · skip
      go_simp
      have hw := HW.out.al [g5] [g7]
      refine hK.out _ _ hw.1 (fun hHeld => ?_)
      clear hK K
      (try dsimp only [Act.put]); try simp only [pt1, pt2, pt3]
      exact K_5_6_7.out _ _ _ _ hw
  intro key
  (try dsimp only [Act.put] at key); try simp only [pt1, pt2, pt3] at key
  have K_5_7 := Lib.hid key
  clear key
  refine memo (fun a G => ∀ (wn : World) (g6 g7 : Nat), (Wk14 S i pc pt ph pl wc wn [g6, g7] []) → G ((a.put (some 13) (.pointer (some ⟨g6, 0, none⟩))).put (some 14) (.pointer (some ⟨g7, 0, none⟩))) wn) 6 #[true, true, true, true, false, false, true, true, false, false, false, false] ?_ ?_
  · (try dsimp only [Act.put]); try simp only [pt1, pt2, pt3]
    intro wn g6 g7 HW
    have HW := Lib.hid HW
    refine wpAnyH_ready (rs := [4, 5]) (by kernel_rfl) (by simp) (rc (fun K hK => ?_) (rc (fun K hK => ?_) AllReadyH.nil))
    · skip
      go_simp
      have hw := HW.out.al [] [g6, g7]
      refine hK.out _ _ hw.1 (fun hHeld => ?_)
      clear hK K
      (try dsimp only [Act.put]); try simp only [pt1, pt2, pt3]
      exact K_4_6_7.out _ _ _ _ hw
    · skip
      go_simp
      have hw := HW.out.al [] [g6, g7]
      refine hK.out _ _ hw.1 (fun hHeld => ?_)
      clear hK K
      (try dsimp only [Act.put]); try simp only [pt1, pt2, pt3]
      exact K_5_6_7.out _ _ _ _ hw
  intro key
  (try dsimp only [Act.put] at key); try simp only [pt1, pt2, pt3] at key
  have K_6_7 := Lib.hid key
  clear key
  refine memo (fun a G => ∀ (wn : World) (g4 : Nat), (Wk14 S i pc pt ph pl wc wn [g4] []) → G (a.put (some 11) (.pointer (some ⟨g4, 0, none⟩))) wn) 7 #[true, true, true, true, true, false, false, false, false, false, false, false] ?_ ?_
  · (try dsimp only [Act.put]); try simp only [pt1, pt2, pt3]
    intro wn g4 HW
    have HW := Lib.hid HW
    refine wpAnyH_ready (rs := [5, 6, 7]) (by kernel_rfl) (by simp) (rc (fun K hK => ?_) (rc (fun K hK => ?_) (rc (fun K hK => ?_) AllReadyH.nil)))
    · skip
      go_simp
      have hw := HW.out.al [g4] []
      refine hK.out _ _ hw.1 (fun hHeld => ?_)
      clear hK K
      (try dsimp only [Act.put]); try simp only [pt1, pt2, pt3]
      exact K_4_5.out _ _ _ hw
    · skip
      go_simp
      have hw := HW.out.al [g4] []
      refine hK.out _ _ hw.1 (fun hHeld => ?_)
      clear hK K
      (try dsimp only [Act.put]); try simp only [pt1, pt2, pt3]
      exact K_4_6.out _ _ _ hw
    · skip
      go_simp
      have hw := HW.out.al [g4] []
      refine hK.out _ _ hw.1 (fun hHeld => ?_)
      clear hK K
      (try dsimp only [Act.put]); try simp only [pt1, pt2, pt3]
      exact K_4_7.out _ _ _ hw
  intro key
  (try dsimp only [Act.put] at key); try simp only [pt1, pt2, pt3] at key
  have K_4 := Lib.hid key
  clear key
  refine memo (fun a G => ∀ (wn : World) (g5 : Nat), (Wk14 S i pc pt ph pl wc wn [g5] []) → G (a.put (some 12) (.pointer (some ⟨g5, 0, none⟩))) wn) 7 #[true, true, true, true, false, true, false, false, false, false, false, false] ?_ ?_
  · (try dsimp only [Act.put]); try simp only [pt1, pt2, pt3]
    intro wn g5 HW
    have HW := Lib.hid HW
    refine wpAnyH_ready (rs := [4, 6, 7]) (by kernel_rfl) (by simp) (rc (fun K hK => ?_) (rc (fun K hK => ?_) (rc (fun K hK => ?_) AllReadyH.nil)))
    · skip
      go_simp
      have hw := HW.out.al [] [g5]
      refine hK.out _ _ hw.1 (fun hHeld => ?_)
      clear hK K
      (try dsimp only [Act.put]); try simp only [pt1, pt2, pt3]
      exact K_4_5.out _ _ _ hw
    · skip
      go_simp
      have hw := HW.out.al [g5] []
      refine hK.out _ _ hw.1 (fun hHeld => ?_)
      clear hK K
      (try dsimp only [Act.put]); try simp only [pt1, pt2, pt3]
      exact K_5_6.out _ _ _ hw
    · skip
      go_simp
      have hw := HW.out.al [g5] []
      refine hK.out _ _ hw.1 (fun hHeld => ?_)
      clear hK K
      (try dsimp only [Act.put]); try simp only [pt1, pt2, pt3]
      exact K_5_7.out _ _ _ hw
  intro key
  (try dsimp only [Act.put] at key); try simp only [pt1, pt2, pt3] at key
  have K_5 := Lib.hid key
  clear key
  refine memo (fun a G => ∀ (wn : World) (g6 : Nat), (Wk14 S i pc pt ph pl wc wn [g6] []) → G (a.put (some 13) (.pointer (some ⟨g6, 0, none⟩))) wn) 7 #[true, true, true, true, false, false, true, false, false, false, false, false] ?_ ?_
  · (try dsimp only [Act.put]); try simp only [pt1, pt2, pt3]
    intro wn g6 HW
    have HW := Lib.hid HW
    refine wpAnyH_ready (rs := [4, 5, 7]) (by kernel_rfl) (by simp) (rc (fun K hK => ?_) (rc (fun K hK => ?_) (rc (fun K hK => ?_) AllReadyH.nil)))
    · skip
      go_simp
      have hw := HW.out.al [] [g6]
      refine hK.out _ _ hw.1 (fun hHeld => ?_)
      clear hK K
      (try dsimp only [Act.put]); try simp only [pt1, pt2, pt3]
      exact K_4_6.out _ _ _ hw
    · skip
      go_simp
      have hw := HW.out.al [] [g6]
      refine hK.out _ _ hw.1 (fun hHeld => ?_)
      clear hK K
      (try dsimp only [Act.put]); try simp only [pt1, pt2, pt3]
      exact K_5_6.out _ _ _ hw
    · skip
      go_simp
      have hw := HW.out.al [g6] []
      refine hK.out _ _ hw.1 (fun hHeld => ?_)
      clear hK K
      (try dsimp only [Act.put]); try simp only [pt1, pt2, pt3]
      exact K_6_7.out _ _ _ hw
  intro key
  (try dsimp only [Act.put] at key); try simp only [pt1, pt2, pt3] at key
  have K_6 := Lib.hid key
  clear key
  refine memo (fun a G => ∀ (wn : World) (g7 : Nat), (Wk14 S i pc pt ph pl wc wn [g7] []) → G (a.put (some 14) (.pointer (some ⟨g7, 0, none⟩))) wn) 7 #[true, true, true, true, false, false, false, true, false, false, false, false] ?_ ?_
  · (try dsimp only [Act.put]); try simp only [pt1, pt2, pt3]
    intro wn g7 HW
    have HW := Lib.hid HW
    refine wpAnyH_ready (rs := [4, 5, 6]) (by kernel_rfl) (by simp) (rc (fun K hK => ?_) (rc (fun K hK => ?_) (rc (fun K hK => ?_) AllReadyH.nil)))
    · skip
      go_simp
      have hw := HW.out.al [] [g7]
      refine hK.out _ _ hw.1 (fun hHeld => ?_)
      clear hK K
      (try dsimp only [Act.put]); try simp only [pt1, pt2, pt3]
      exact K_4_7.out _ _ _ hw
    · skip
      go_simp
      have hw := HW.out.al [] [g7]
      refine hK.out _ _ hw.1 (fun hHeld => ?_)
      clear hK K
      (try dsimp only [Act.put]); try simp only [pt1, pt2, pt3]
      exact K_5_7.out _ _ _ hw
    · skip
      go_simp
      have hw := HW.out.al [] [g7]
      refine hK.out _ _ hw.1 (fun hHeld => ?_)
      clear hK K
      (try dsimp only [Act.put]); try simp only [pt1, pt2, pt3]
      exact K_6_7.out _ _ _ hw
  intro key
  (try dsimp only [Act.put] at key); try simp only [pt1, pt2, pt3] at key
  have K_7 := Lib.hid key
  clear key
  have HW : Hid (Wk14 S i pc pt ph pl wc wn [] []) := Lib.hid ⟨HBS.out, Zs14.nil wc wn, fun j v hv => by simp at hv⟩
  refine wpAnyH_ready (rs := [4, 5, 6, 7]) (by kernel_rfl) (by simp) (rc (fun K hK => ?_) (rc (fun K hK => ?_) (rc (fun K hK => ?_) (rc (fun K hK => ?_) AllReadyH.nil))))
  · skip
    go_simp
    have hw := HW.out.al [] []
    refine hK.out _ _ hw.1 (fun hHeld => ?_)
    clear hK K
    (try dsimp only [Act.put]); try simp only [pt1, pt2, pt3]
    exact K_4.out _ _ hw
  · skip
    go_simp
    have hw := HW.out.al [] []
    refine hK.out _ _ hw.1 (fun hHeld => ?_)
    clear hK K
    (try dsimp only [Act.put]); try simp only [pt1, pt2, pt3]
    exact K_5.out _ _ hw
  · skip
    go_simp
    have hw := HW.out.al [] []
    refine hK.out _ _ hw.1 (fun hHeld => ?_)
    clear hK K
    (try dsimp only [Act.put]); try simp only [pt1, pt2, pt3]
    exact K_6.out _ _ hw
  · skip
    go_simp
    have hw := HW.out.al [] []
    refine hK.out _ _ hw.1 (fun hHeld => ?_)
    clear hK K
    (try dsimp only [Act.put]); try simp only [pt1, pt2, pt3]
    exact K_7.out _ _ hw
end
end Go.Proofs.YtfoellhoaflofaaGreat
