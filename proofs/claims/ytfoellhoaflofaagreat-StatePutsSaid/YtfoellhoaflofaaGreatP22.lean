/-
  SaidStatePuts, part 22 of 26: what the theorem statePuts_holds reaches.
-/
import Derived.Test.YtfoellhoaflofaaGreatP21
namespace Go.Proofs.YtfoellhoaflofaaGreat
open Go.RowKit
set_option maxRecDepth 100000
/-- The operations of a region of a function's body. -/
def regionOf14 : Code → Nat → Option (Array Oper)
  | .region id ops _, n => if id = n then some ops else none
  | .seq x y, n => (regionOf14 x n).orElse fun _ => regionOf14 y n
  | .cond _ x y, n => (regionOf14 x n).orElse fun _ => regionOf14 y n
  | .block _ x, n => regionOf14 x n
  | .loop x, n => regionOf14 x n
  | _, _ => none
section
variable {t0 t1 t2 t3 t4 t5 t6 t7 t8 t9 t10 t11 t12 t13 t14 t15 t16 t17 t18 t19 t20 t21 t22 t23 t24 t25 t26 t27 t28 t29 t30 t31 t32 t33 t34 t35 t36 t37 t38 t39 t40 t41 t42 t43 t44 t45 t46 t47 t48 t49 t50 t51 t52 t53 t54 t55 t56 t57 t58 t59 t60 t61 t62 t63 t64 t65 t66 t67 t68 t69 t70 t71 t72 t73 t74 t75 t76 t77 t78 t79 t80 t81 t82 t83 t84 t85 t86 t87 t88 t89 t90 t91 t92 t93 t94 t95 t96 t97 t98 t99 t100 t101 t102 t103 t104 t105 t106 t107 t108 t109 t110 t111 t112 t113 t114 t115 t116 t117 t118 t119 t120 t121 t122 t123 t124 t125 t126 t127 t128 t129 t130 t131 t132 t133 t134 t135 t136 t137 t138 t139 t140 t141 t142 t143 t144 t145 t146 t147 t148 t149 t150 t151 t152 t153 t154 t155 t156 t157 t158 t159 t160 t161 t162 t163 t164 t165 t166 t167 t168 t169 t170 t171 t172 t173 t174 t175 t176 t177 t178 t179 t180 t181 t182 t183 t184 t185 t186 t187 t188 t189 t190 t191 t192 t193 t194 t195 t196 t197 t198 t199 t200 t201 t202 t203 t204 t205 t206 t207 t208 t209 t210 t211 t212 t213 t214 t215 t216 t217 t218 t219 t220 t221 t222 t223 t224 t225 t226 t227 t228 t229 t230 t231 t232 t233 t234 t235 t236 t237 t238 t239 t240 t241 t242 t243 t244 t245 t246 t247 t248 t249 t250 : Value}
variable {Q : Exit → Act → World → Prop}
def ops14cs : { o : Array Oper // (match Go.Func.body Tryz.f4 with | some c => regionOf14 c 3 | none => none) = some o } := ⟨_, rfl⟩
def ops14c : Array Oper := ops14cs.1
set_option maxHeartbeats 64000000 in
theorem reg14_3 {w wc : World} {S : Sv14} {A0 A1 A2 A3 A4 : Option Addr} {n0 n1 n2 n3 n4 c0 c1 c2 c3 c4 : Nat} {sq : Int} {pc : Bool} {pt : Tk14} {ph : Th14} {pl : Lk14} {i : Int} (hlp : Lp14 w S A0 A1 A2 A3 A4 n0 n1 n2 n3 n4 c0 c1 c2 c3 c4 sq pc pt ph pl wc)
    (hP : ∀ c a d v w, Q (.panic c) (Act.put a (some d) v) w → Q (.panic c) a w)
    (hQ : ∀ (x25 x26 x27 x28 x29 x30 x31 x32 x33 x34 x35 x36 x37 x38 x39 x40 x41 x42 x43 x44 : Value) (g20 g21 g22 g23 : Nat) (wn : World), Below wc.heap.size wc wn → Vb14 wn g20 (putCoin14 S i pc) [g20, g21, g22, g23] → Vb14 wn g21 (putTicket14 S i pt) [g20, g21, g22, g23] → Vb14 wn g22 (putThread14 S i ph) [g20, g21, g22, g23] → Vb14 wn g23 (putLock14 S i pl) [g20, g21, g22, g23] → wc.heap.size ≤ g20 → wc.heap.size ≤ g21 → wc.heap.size ≤ g22 → wc.heap.size ≤ g23 → g20 ≠ g21 → g20 ≠ g22 → g20 ≠ g23 → g21 ≠ g22 → g21 ≠ g23 → g22 ≠ g23 → Q .normal { tmps := #[t0, .int .i64 i, t2, .pointer (some ⟨w.heap.size, 0, none⟩), t4, .pointer (some ⟨w.heap.size + 1, 0, none⟩), t6, (.pointer (some ⟨g20, 0, none⟩)), (.pointer (some ⟨g21, 0, none⟩)), (.pointer (some ⟨g22, 0, none⟩)), (.pointer (some ⟨g23, 0, none⟩)), t11, t12, t13, t14, t15, t16, t17, t18, t19, t20, t21, t22, t23, t24, x25, x26, x27, x28, x29, x30, x31, x32, x33, x34, x35, x36, x37, x38, x39, x40, x41, x42, x43, x44, t45, t46, t47, t48, t49, t50, t51, t52, t53, t54, t55, t56, t57, t58, t59, t60, t61, t62, t63, t64, t65, t66, t67, t68, t69, t70, t71, t72, t73, t74, t75, t76, t77, t78, t79, t80, t81, t82, t83, t84, t85, t86, t87, t88, t89, t90, t91, t92, t93, t94, t95, t96, t97, t98, t99, t100, t101, t102, t103, t104, t105, t106, t107, t108, t109, t110, t111, t112, t113, t114, t115, t116, t117, t118, t119, t120, t121, t122, t123, t124, t125, t126, t127, t128, t129, t130, t131, t132, t133, t134, t135, t136, t137, t138, t139, t140, t141, t142, t143, t144, t145, t146, t147, t148, t149, t150, t151, t152, t153, t154, t155, t156, t157, t158, t159, t160, t161, t162, t163, t164, t165, t166, t167, t168, t169, t170, t171, t172, t173, t174, t175, t176, t177, t178, t179, t180, t181, t182, t183, t184, t185, t186, t187, t188, t189, t190, t191, t192, t193, t194, t195, t196, t197, t198, t199, t200, t201, t202, t203, t204, t205, t206, t207, t208, t209, t210, t211, t212, t213, t214, t215, t216, t217, t218, t219, t220, t221, t222, t223, t224, t225, t226, t227, t228, t229, t230, t231, t232, t233, t234, t235, t236, t237, t238, t239, t240, t241, t242, t243, t244, t245, t246, t247, t248, t249, t250], defers := [] } wn) :
    (Code.region 3 ops14c true).wp Tryz.prog Q { tmps := #[t0, .int .i64 i, t2, .pointer (some ⟨w.heap.size, 0, none⟩), t4, .pointer (some ⟨w.heap.size + 1, 0, none⟩), t6, t7, t8, t9, t10, t11, t12, t13, t14, t15, t16, t17, t18, t19, t20, t21, t22, t23, t24, t25, t26, t27, t28, t29, t30, t31, t32, t33, t34, t35, t36, t37, t38, t39, t40, t41, t42, t43, t44, t45, t46, t47, t48, t49, t50, t51, t52, t53, t54, t55, t56, t57, t58, t59, t60, t61, t62, t63, t64, t65, t66, t67, t68, t69, t70, t71, t72, t73, t74, t75, t76, t77, t78, t79, t80, t81, t82, t83, t84, t85, t86, t87, t88, t89, t90, t91, t92, t93, t94, t95, t96, t97, t98, t99, t100, t101, t102, t103, t104, t105, t106, t107, t108, t109, t110, t111, t112, t113, t114, t115, t116, t117, t118, t119, t120, t121, t122, t123, t124, t125, t126, t127, t128, t129, t130, t131, t132, t133, t134, t135, t136, t137, t138, t139, t140, t141, t142, t143, t144, t145, t146, t147, t148, t149, t150, t151, t152, t153, t154, t155, t156, t157, t158, t159, t160, t161, t162, t163, t164, t165, t166, t167, t168, t169, t170, t171, t172, t173, t174, t175, t176, t177, t178, t179, t180, t181, t182, t183, t184, t185, t186, t187, t188, t189, t190, t191, t192, t193, t194, t195, t196, t197, t198, t199, t200, t201, t202, t203, t204, t205, t206, t207, t208, t209, t210, t211, t212, t213, t214, t215, t216, t217, t218, t219, t220, t221, t222, t223, t224, t225, t226, t227, t228, t229, t230, t231, t232, t233, t234, t235, t236, t237, t238, t239, t240, t241, t242, t243, t244, t245, t246, t247, t248, t249, t250], defers := [] } wc := by
  have HLP := Lib.hid hlp
  clear hlp
  have hst : Below wc.heap.size wc wc.drew := (Below.refl _ _).drew
  have HBS := Lib.hid hst
  refine wp_region_held_drew (S := fun W => Below wc.heap.size wc W) (by kernel_rfl) hst (fun hHeld => ?_)
  change wpAnyH _ _ ops14c _ _ 28 #[false, false, false, false, false, false, false, false, false, false, false, false, false, false, false, false, false, false, false, false, false, false, false, false, false, false, false, false] _ _
  obtain ⟨wn, hwn⟩ : ∃ W, wc.drew = W := ⟨_, rfl⟩
  rw [hwn] at HBS hHeld
  rw [hwn]
  clear hwn hst
  refine tkp hP 0 (v := ?_) (fun W hS => ?_) ?_
  rotate_left
  · try dsimp only at hS
    have z0 := (HLP.out.step hS).x.cell 0
    have z1 := (HLP.out.step hS).x.cell 1
    have z2 := (HLP.out.step hS).x.cell 2
    have z3 := (HLP.out.step hS).x.cell 3
    have z4 := (HLP.out.step hS).x.cell 4
    have z5 := (HLP.out.step hS).x.cell 5
    go_simp
    try with_reducible rfl
  (try dsimp only [Act.put]); try simp only [pt1, pt2, pt3]
  refine tkp hP 1 (v := ?_) (fun W hS => ?_) ?_
  rotate_left
  · (go_simp; try with_reducible rfl)
  (try dsimp only [Act.put]); try simp only [pt1, pt2, pt3]
  refine tkp hP 2 (v := ?_) (fun W hS => ?_) ?_
  rotate_left
  · (go_simp; try with_reducible rfl)
  (try dsimp only [Act.put]); try simp only [pt1, pt2, pt3]
  refine tkp hP 3 (v := ?_) (fun W hS => ?_) ?_
  rotate_left
  · try dsimp only at hS
    have z0 := (HLP.out.step hS).y.cell 0
    have z1 := (HLP.out.step hS).y.cell 1
    have z2 := (HLP.out.step hS).y.cell 2
    have z3 := (HLP.out.step hS).y.cell 3
    have z4 := (HLP.out.step hS).y.cell 4
    have z5 := (HLP.out.step hS).y.cell 5
    have z6 := (HLP.out.step hS).y.cell 6
    have z7 := (HLP.out.step hS).y.cell 7
    have z8 := (HLP.out.step hS).y.cell 8
    have z9 := (HLP.out.step hS).y.cell 9
    have z10 := (HLP.out.step hS).y.cell 10
    have z11 := (HLP.out.step hS).y.cell 11
    have z12 := (HLP.out.step hS).y.cell 12
    have z13 := (HLP.out.step hS).y.cell 13
    go_simp
    try with_reducible rfl
  (try dsimp only [Act.put]); try simp only [pt1, pt2, pt3]
  refine tkp hP 5 (v := ?_) (fun W hS => ?_) ?_
  rotate_left
  · try dsimp only at hS
    have z0 := (HLP.out.step hS).x.cell 0
    have z1 := (HLP.out.step hS).x.cell 1
    have z2 := (HLP.out.step hS).x.cell 2
    have z3 := (HLP.out.step hS).x.cell 3
    have z4 := (HLP.out.step hS).x.cell 4
    have z5 := (HLP.out.step hS).x.cell 5
    go_simp
    try with_reducible rfl
  (try dsimp only [Act.put]); try simp only [pt1, pt2, pt3]
  refine tkp hP 6 (v := ?_) (fun W hS => ?_) ?_
  rotate_left
  · (go_simp; try with_reducible rfl)
  (try dsimp only [Act.put]); try simp only [pt1, pt2, pt3]
  refine tkp hP 7 (v := ?_) (fun W hS => ?_) ?_
  rotate_left
  · (go_simp; try with_reducible rfl)
  (try dsimp only [Act.put]); try simp only [pt1, pt2, pt3]
  refine tkp hP 8 (v := ?_) (fun W hS => ?_) ?_
  rotate_left
  · try dsimp only at hS
    have z0 := (HLP.out.step hS).y.cell 0
    have z1 := (HLP.out.step hS).y.cell 1
    have z2 := (HLP.out.step hS).y.cell 2
    have z3 := (HLP.out.step hS).y.cell 3
    have z4 := (HLP.out.step hS).y.cell 4
    have z5 := (HLP.out.step hS).y.cell 5
    have z6 := (HLP.out.step hS).y.cell 6
    have z7 := (HLP.out.step hS).y.cell 7
    have z8 := (HLP.out.step hS).y.cell 8
    have z9 := (HLP.out.step hS).y.cell 9
    have z10 := (HLP.out.step hS).y.cell 10
    have z11 := (HLP.out.step hS).y.cell 11
    have z12 := (HLP.out.step hS).y.cell 12
    have z13 := (HLP.out.step hS).y.cell 13
    go_simp
    try with_reducible rfl
  (try dsimp only [Act.put]); try simp only [pt1, pt2, pt3]
  refine tkp hP 10 (v := ?_) (fun W hS => ?_) ?_
  rotate_left
  · try dsimp only at hS
    have z0 := (HLP.out.step hS).x.cell 0
    have z1 := (HLP.out.step hS).x.cell 1
    have z2 := (HLP.out.step hS).x.cell 2
    have z3 := (HLP.out.step hS).x.cell 3
    have z4 := (HLP.out.step hS).x.cell 4
    have z5 := (HLP.out.step hS).x.cell 5
    go_simp
    try with_reducible rfl
  (try dsimp only [Act.put]); try simp only [pt1, pt2, pt3]
  refine tkp hP 11 (v := ?_) (fun W hS => ?_) ?_
  rotate_left
  · (go_simp; try with_reducible rfl)
  (try dsimp only [Act.put]); try simp only [pt1, pt2, pt3]
  refine tkp hP 12 (v := ?_) (fun W hS => ?_) ?_
  rotate_left
  · (go_simp; try with_reducible rfl)
  (try dsimp only [Act.put]); try simp only [pt1, pt2, pt3]
  refine tkp hP 13 (v := ?_) (fun W hS => ?_) ?_
  rotate_left
  · try dsimp only at hS
    have z0 := (HLP.out.step hS).y.cell 0
    have z1 := (HLP.out.step hS).y.cell 1
    have z2 := (HLP.out.step hS).y.cell 2
    have z3 := (HLP.out.step hS).y.cell 3
    have z4 := (HLP.out.step hS).y.cell 4
    have z5 := (HLP.out.step hS).y.cell 5
    have z6 := (HLP.out.step hS).y.cell 6
    have z7 := (HLP.out.step hS).y.cell 7
    have z8 := (HLP.out.step hS).y.cell 8
    have z9 := (HLP.out.step hS).y.cell 9
    have z10 := (HLP.out.step hS).y.cell 10
    have z11 := (HLP.out.step hS).y.cell 11
    have z12 := (HLP.out.step hS).y.cell 12
    have z13 := (HLP.out.step hS).y.cell 13
    go_simp
    try with_reducible rfl
  (try dsimp only [Act.put]); try simp only [pt1, pt2, pt3]
  refine tkp hP 15 (v := ?_) (fun W hS => ?_) ?_
  rotate_left
  · try dsimp only at hS
    have z0 := (HLP.out.step hS).x.cell 0
    have z1 := (HLP.out.step hS).x.cell 1
    have z2 := (HLP.out.step hS).x.cell 2
    have z3 := (HLP.out.step hS).x.cell 3
    have z4 := (HLP.out.step hS).x.cell 4
    have z5 := (HLP.out.step hS).x.cell 5
    go_simp
    try with_reducible rfl
  (try dsimp only [Act.put]); try simp only [pt1, pt2, pt3]
  refine tkp hP 16 (v := ?_) (fun W hS => ?_) ?_
  rotate_left
  · (go_simp; try with_reducible rfl)
  (try dsimp only [Act.put]); try simp only [pt1, pt2, pt3]
  refine tkp hP 17 (v := ?_) (fun W hS => ?_) ?_
  rotate_left
  · (go_simp; try with_reducible rfl)
  (try dsimp only [Act.put]); try simp only [pt1, pt2, pt3]
  refine tkp hP 18 (v := ?_) (fun W hS => ?_) ?_
  rotate_left
  · try dsimp only at hS
    have z0 := (HLP.out.step hS).y.cell 0
    have z1 := (HLP.out.step hS).y.cell 1
    have z2 := (HLP.out.step hS).y.cell 2
    have z3 := (HLP.out.step hS).y.cell 3
    have z4 := (HLP.out.step hS).y.cell 4
    have z5 := (HLP.out.step hS).y.cell 5
    have z6 := (HLP.out.step hS).y.cell 6
    have z7 := (HLP.out.step hS).y.cell 7
    have z8 := (HLP.out.step hS).y.cell 8
    have z9 := (HLP.out.step hS).y.cell 9
    have z10 := (HLP.out.step hS).y.cell 10
    have z11 := (HLP.out.step hS).y.cell 11
    have z12 := (HLP.out.step hS).y.cell 12
    have z13 := (HLP.out.step hS).y.cell 13
    go_simp
    try with_reducible rfl
  (try dsimp only [Act.put]); try simp only [pt1, pt2, pt3]
  refine memo (fun a G => ∀ (wn : World) (g20 g21 g22 g23 : Nat) (v4 v9 v14 v19 : Value), (Wk14 S i pc pt ph pl wc wn [g20, g21, g22, g23] [v4, v9, v14, v19]) → G ((((((((a.put (some 7) (.pointer (some ⟨g20, 0, none⟩))).put (some 8) (.pointer (some ⟨g21, 0, none⟩))).put (some 9) (.pointer (some ⟨g22, 0, none⟩))).put (some 10) (.pointer (some ⟨g23, 0, none⟩))).put (some 29) v4).put (some 34) v9).put (some 39) v14).put (some 44) v19) wn) 4 #[true, true, true, true, true, true, true, true, true, true, true, true, true, true, true, true, true, true, true, true, true, true, true, true, false, false, false, false] ?_ ?_
  · (try dsimp only [Act.put]); try simp only [pt1, pt2, pt3]
    intro wn g20 g21 g22 g23 v4 v9 v14 v19 HW
    have HW := Lib.hid HW
    obtain ⟨hB, hZ, hR⟩ := HW.out
    have HBS := Lib.hid hB
    have HZ := Lib.hid hZ
    have HR4 : Hid (Rs14 wn v4 (putCoin14 S i pc) [g20, g21, g22, g23]) := Lib.hid (hR 0 _ rfl)
    have HR9 : Hid (Rs14 wn v9 (putTicket14 S i pt) [g20, g21, g22, g23]) := Lib.hid (hR 1 _ rfl)
    have HR14 : Hid (Rs14 wn v14 (putThread14 S i ph) [g20, g21, g22, g23]) := Lib.hid (hR 2 _ rfl)
    have HR19 : Hid (Rs14 wn v19 (putLock14 S i pl) [g20, g21, g22, g23]) := Lib.hid (hR 3 _ rfl)
    clear HW hB hZ hR
    have HN0 := Lib.hid HZ.out.1
    have HK20 := Lib.hid (HZ.out.2 g20 (by simp)).2
    have f20 := (HZ.out.2 g20 (by simp)).1
    have HK21 := Lib.hid (HZ.out.2 g21 (by simp)).2
    have f21 := (HZ.out.2 g21 (by simp)).1
    have HK22 := Lib.hid (HZ.out.2 g22 (by simp)).2
    have f22 := (HZ.out.2 g22 (by simp)).1
    have HK23 := Lib.hid (HZ.out.2 g23 (by simp)).2
    have f23 := (HZ.out.2 g23 (by simp)).1
    have d20_21 : g20 ≠ g21 := by have h := HN0.out; simp at h; omega
    have d20_22 : g20 ≠ g22 := by have h := HN0.out; simp at h; omega
    have d20_23 : g20 ≠ g23 := by have h := HN0.out; simp at h; omega
    have d21_22 : g21 ≠ g22 := by have h := HN0.out; simp at h; omega
    have d21_23 : g21 ≠ g23 := by have h := HN0.out; simp at h; omega
    have d22_23 : g22 ≠ g23 := by have h := HN0.out; simp at h; omega
    clear HN0 HZ
    refine rdy 24 (fun K hK => ?_)
    obtain ⟨B0, B1, B2, B3, B4, m0, m1, m2, m3, m4, d0, d1, d2, d3, d4, sx, hv4, hsa, hap⟩ := HR4.out
    subst hv4
    have k0 := HK20.out.cell 0
    have y0 := HK20.out.frozen 0
    have k1 := HK20.out.cell 1
    have y1 := HK20.out.frozen 1
    have k2 := HK20.out.cell 2
    have y2 := HK20.out.frozen 2
    have k3 := HK20.out.cell 3
    have y3 := HK20.out.frozen 3
    have k4 := HK20.out.cell 4
    have y4 := HK20.out.frozen 4
    have k5 := HK20.out.cell 5
    have y5 := HK20.out.frozen 5
    simp only [List.getElem?_toArray, List.getElem?_cons_zero, List.getElem?_cons_succ] at k0 k1 k2 k3 k4 k5
    go_simp
    have hw6 : ((((((wn.setCell ⟨g20, 0, none⟩ (.slice B0 m0 d0)).setCell ⟨g20, 1, none⟩ (.slice B1 m1 d1)).setCell ⟨g20, 2, none⟩ (.slice B2 m2 d2)).setCell ⟨g20, 3, none⟩ (.slice B3 m3 d3)).setCell ⟨g20, 4, none⟩ (.slice B4 m4 d4)).setCell ⟨g20, 5, none⟩ (.int .i64 sx)) = put6 wn g20 B0 B1 B2 B3 B4 m0 m1 m2 m3 m4 d0 d1 d2 d3 d4 sx := rfl
    have HBS := Lib.hid (put6_below HBS.out f20 B0 B1 B2 B3 B4 m0 m1 m2 m3 m4 d0 d1 d2 d3 d4 sx)
    have hv : Vb14 (put6 wn g20 B0 B1 B2 B3 B4 m0 m1 m2 m3 m4 d0 d1 d2 d3 d4 sx) g20 (putCoin14 S i pc) [g20, g21, g22, g23] := ⟨B0, B1, B2, B3, B4, m0, m1, m2, m3, m4, d0, d1, d2, d3, d4, sx, HK20.out.put6 B0 B1 B2 B3 B4 m0 m1 m2 m3 m4 d0 d1 d2 d3 d4 sx, hsa.put6 (hap _ (by simp)) B0 B1 B2 B3 B4 m0 m1 m2 m3 m4 d0 d1 d2 d3 d4 sx, hap⟩
    have HK21 := Lib.hid (HK21.out.put6_far (g := g20) (by omega) B0 B1 B2 B3 B4 m0 m1 m2 m3 m4 d0 d1 d2 d3 d4 sx)
    have HK22 := Lib.hid (HK22.out.put6_far (g := g20) (by omega) B0 B1 B2 B3 B4 m0 m1 m2 m3 m4 d0 d1 d2 d3 d4 sx)
    have HK23 := Lib.hid (HK23.out.put6_far (g := g20) (by omega) B0 B1 B2 B3 B4 m0 m1 m2 m3 m4 d0 d1 d2 d3 d4 sx)
    have HR9 := Lib.hid (HR9.out.put6 (g := g20) (by simp) B0 B1 B2 B3 B4 m0 m1 m2 m3 m4 d0 d1 d2 d3 d4 sx)
    have HR14 := Lib.hid (HR14.out.put6 (g := g20) (by simp) B0 B1 B2 B3 B4 m0 m1 m2 m3 m4 d0 d1 d2 d3 d4 sx)
    have HR19 := Lib.hid (HR19.out.put6 (g := g20) (by simp) B0 B1 B2 B3 B4 m0 m1 m2 m3 m4 d0 d1 d2 d3 d4 sx)
    have HV20 := Lib.hid hv
    rw [hw6]
    obtain ⟨wn, hwm⟩ : ∃ W, put6 wn g20 B0 B1 B2 B3 B4 m0 m1 m2 m3 m4 d0 d1 d2 d3 d4 sx = W := ⟨_, rfl⟩
    rw [hwm] at HBS HV20 HK21 HK22 HK23 HR9 HR14 HR19
    rw [hwm]
    clear hwm hw6 hv hsa hap k0 y0 k1 y1 k2 y2 k3 y3 k4 y4 k5 y5 HK20 HR4
    refine hK.out _ _ HBS.out (fun hHeld => ?_)
    clear hK K
    (try dsimp only [Act.put]); try simp only [pt1, pt2, pt3]
    refine rdy 25 (fun K hK => ?_)
    obtain ⟨B0, B1, B2, B3, B4, m0, m1, m2, m3, m4, d0, d1, d2, d3, d4, sx, hv9, hsa, hap⟩ := HR9.out
    subst hv9
    have k0 := HK21.out.cell 0
    have y0 := HK21.out.frozen 0
    have k1 := HK21.out.cell 1
    have y1 := HK21.out.frozen 1
    have k2 := HK21.out.cell 2
    have y2 := HK21.out.frozen 2
    have k3 := HK21.out.cell 3
    have y3 := HK21.out.frozen 3
    have k4 := HK21.out.cell 4
    have y4 := HK21.out.frozen 4
    have k5 := HK21.out.cell 5
    have y5 := HK21.out.frozen 5
    simp only [List.getElem?_toArray, List.getElem?_cons_zero, List.getElem?_cons_succ] at k0 k1 k2 k3 k4 k5
    go_simp
    have hw6 : ((((((wn.setCell ⟨g21, 0, none⟩ (.slice B0 m0 d0)).setCell ⟨g21, 1, none⟩ (.slice B1 m1 d1)).setCell ⟨g21, 2, none⟩ (.slice B2 m2 d2)).setCell ⟨g21, 3, none⟩ (.slice B3 m3 d3)).setCell ⟨g21, 4, none⟩ (.slice B4 m4 d4)).setCell ⟨g21, 5, none⟩ (.int .i64 sx)) = put6 wn g21 B0 B1 B2 B3 B4 m0 m1 m2 m3 m4 d0 d1 d2 d3 d4 sx := rfl
    have HBS := Lib.hid (put6_below HBS.out f21 B0 B1 B2 B3 B4 m0 m1 m2 m3 m4 d0 d1 d2 d3 d4 sx)
    have hv : Vb14 (put6 wn g21 B0 B1 B2 B3 B4 m0 m1 m2 m3 m4 d0 d1 d2 d3 d4 sx) g21 (putTicket14 S i pt) [g20, g21, g22, g23] := ⟨B0, B1, B2, B3, B4, m0, m1, m2, m3, m4, d0, d1, d2, d3, d4, sx, HK21.out.put6 B0 B1 B2 B3 B4 m0 m1 m2 m3 m4 d0 d1 d2 d3 d4 sx, hsa.put6 (hap _ (by simp)) B0 B1 B2 B3 B4 m0 m1 m2 m3 m4 d0 d1 d2 d3 d4 sx, hap⟩
    have HV20 := Lib.hid (HV20.out.put6 (g := g21) (by simp) (by omega) B0 B1 B2 B3 B4 m0 m1 m2 m3 m4 d0 d1 d2 d3 d4 sx)
    have HK22 := Lib.hid (HK22.out.put6_far (g := g21) (by omega) B0 B1 B2 B3 B4 m0 m1 m2 m3 m4 d0 d1 d2 d3 d4 sx)
    have HK23 := Lib.hid (HK23.out.put6_far (g := g21) (by omega) B0 B1 B2 B3 B4 m0 m1 m2 m3 m4 d0 d1 d2 d3 d4 sx)
    have HR14 := Lib.hid (HR14.out.put6 (g := g21) (by simp) B0 B1 B2 B3 B4 m0 m1 m2 m3 m4 d0 d1 d2 d3 d4 sx)
    have HR19 := Lib.hid (HR19.out.put6 (g := g21) (by simp) B0 B1 B2 B3 B4 m0 m1 m2 m3 m4 d0 d1 d2 d3 d4 sx)
    have HV21 := Lib.hid hv
    rw [hw6]
    obtain ⟨wn, hwm⟩ : ∃ W, put6 wn g21 B0 B1 B2 B3 B4 m0 m1 m2 m3 m4 d0 d1 d2 d3 d4 sx = W := ⟨_, rfl⟩
    rw [hwm] at HBS HV20 HV21 HK22 HK23 HR14 HR19
    rw [hwm]
    clear hwm hw6 hv hsa hap k0 y0 k1 y1 k2 y2 k3 y3 k4 y4 k5 y5 HK21 HR9
    refine hK.out _ _ HBS.out (fun hHeld => ?_)
    clear hK K
    (try dsimp only [Act.put]); try simp only [pt1, pt2, pt3]
    refine rdy 26 (fun K hK => ?_)
    obtain ⟨B0, B1, B2, B3, B4, m0, m1, m2, m3, m4, d0, d1, d2, d3, d4, sx, hv14, hsa, hap⟩ := HR14.out
    subst hv14
    have k0 := HK22.out.cell 0
    have y0 := HK22.out.frozen 0
    have k1 := HK22.out.cell 1
    have y1 := HK22.out.frozen 1
    have k2 := HK22.out.cell 2
    have y2 := HK22.out.frozen 2
    have k3 := HK22.out.cell 3
    have y3 := HK22.out.frozen 3
    have k4 := HK22.out.cell 4
    have y4 := HK22.out.frozen 4
    have k5 := HK22.out.cell 5
    have y5 := HK22.out.frozen 5
    simp only [List.getElem?_toArray, List.getElem?_cons_zero, List.getElem?_cons_succ] at k0 k1 k2 k3 k4 k5
    go_simp
    have hw6 : ((((((wn.setCell ⟨g22, 0, none⟩ (.slice B0 m0 d0)).setCell ⟨g22, 1, none⟩ (.slice B1 m1 d1)).setCell ⟨g22, 2, none⟩ (.slice B2 m2 d2)).setCell ⟨g22, 3, none⟩ (.slice B3 m3 d3)).setCell ⟨g22, 4, none⟩ (.slice B4 m4 d4)).setCell ⟨g22, 5, none⟩ (.int .i64 sx)) = put6 wn g22 B0 B1 B2 B3 B4 m0 m1 m2 m3 m4 d0 d1 d2 d3 d4 sx := rfl
    have HBS := Lib.hid (put6_below HBS.out f22 B0 B1 B2 B3 B4 m0 m1 m2 m3 m4 d0 d1 d2 d3 d4 sx)
    have hv : Vb14 (put6 wn g22 B0 B1 B2 B3 B4 m0 m1 m2 m3 m4 d0 d1 d2 d3 d4 sx) g22 (putThread14 S i ph) [g20, g21, g22, g23] := ⟨B0, B1, B2, B3, B4, m0, m1, m2, m3, m4, d0, d1, d2, d3, d4, sx, HK22.out.put6 B0 B1 B2 B3 B4 m0 m1 m2 m3 m4 d0 d1 d2 d3 d4 sx, hsa.put6 (hap _ (by simp)) B0 B1 B2 B3 B4 m0 m1 m2 m3 m4 d0 d1 d2 d3 d4 sx, hap⟩
    have HV20 := Lib.hid (HV20.out.put6 (g := g22) (by simp) (by omega) B0 B1 B2 B3 B4 m0 m1 m2 m3 m4 d0 d1 d2 d3 d4 sx)
    have HV21 := Lib.hid (HV21.out.put6 (g := g22) (by simp) (by omega) B0 B1 B2 B3 B4 m0 m1 m2 m3 m4 d0 d1 d2 d3 d4 sx)
    have HK23 := Lib.hid (HK23.out.put6_far (g := g22) (by omega) B0 B1 B2 B3 B4 m0 m1 m2 m3 m4 d0 d1 d2 d3 d4 sx)
    have HR19 := Lib.hid (HR19.out.put6 (g := g22) (by simp) B0 B1 B2 B3 B4 m0 m1 m2 m3 m4 d0 d1 d2 d3 d4 sx)
    have HV22 := Lib.hid hv
    rw [hw6]
    obtain ⟨wn, hwm⟩ : ∃ W, put6 wn g22 B0 B1 B2 B3 B4 m0 m1 m2 m3 m4 d0 d1 d2 d3 d4 sx = W := ⟨_, rfl⟩
    rw [hwm] at HBS HV20 HV21 HV22 HK23 HR19
    rw [hwm]
    clear hwm hw6 hv hsa hap k0 y0 k1 y1 k2 y2 k3 y3 k4 y4 k5 y5 HK22 HR14
    refine hK.out _ _ HBS.out (fun hHeld => ?_)
    clear hK K
    (try dsimp only [Act.put]); try simp only [pt1, pt2, pt3]
    refine rdy 27 (fun K hK => ?_)
    obtain ⟨B0, B1, B2, B3, B4, m0, m1, m2, m3, m4, d0, d1, d2, d3, d4, sx, hv19, hsa, hap⟩ := HR19.out
    subst hv19
    have k0 := HK23.out.cell 0
    have y0 := HK23.out.frozen 0
    have k1 := HK23.out.cell 1
    have y1 := HK23.out.frozen 1
    have k2 := HK23.out.cell 2
    have y2 := HK23.out.frozen 2
    have k3 := HK23.out.cell 3
    have y3 := HK23.out.frozen 3
    have k4 := HK23.out.cell 4
    have y4 := HK23.out.frozen 4
    have k5 := HK23.out.cell 5
    have y5 := HK23.out.frozen 5
    simp only [List.getElem?_toArray, List.getElem?_cons_zero, List.getElem?_cons_succ] at k0 k1 k2 k3 k4 k5
    go_simp
    have hw6 : ((((((wn.setCell ⟨g23, 0, none⟩ (.slice B0 m0 d0)).setCell ⟨g23, 1, none⟩ (.slice B1 m1 d1)).setCell ⟨g23, 2, none⟩ (.slice B2 m2 d2)).setCell ⟨g23, 3, none⟩ (.slice B3 m3 d3)).setCell ⟨g23, 4, none⟩ (.slice B4 m4 d4)).setCell ⟨g23, 5, none⟩ (.int .i64 sx)) = put6 wn g23 B0 B1 B2 B3 B4 m0 m1 m2 m3 m4 d0 d1 d2 d3 d4 sx := rfl
    have HBS := Lib.hid (put6_below HBS.out f23 B0 B1 B2 B3 B4 m0 m1 m2 m3 m4 d0 d1 d2 d3 d4 sx)
    have hv : Vb14 (put6 wn g23 B0 B1 B2 B3 B4 m0 m1 m2 m3 m4 d0 d1 d2 d3 d4 sx) g23 (putLock14 S i pl) [g20, g21, g22, g23] := ⟨B0, B1, B2, B3, B4, m0, m1, m2, m3, m4, d0, d1, d2, d3, d4, sx, HK23.out.put6 B0 B1 B2 B3 B4 m0 m1 m2 m3 m4 d0 d1 d2 d3 d4 sx, hsa.put6 (hap _ (by simp)) B0 B1 B2 B3 B4 m0 m1 m2 m3 m4 d0 d1 d2 d3 d4 sx, hap⟩
    have HV20 := Lib.hid (HV20.out.put6 (g := g23) (by simp) (by omega) B0 B1 B2 B3 B4 m0 m1 m2 m3 m4 d0 d1 d2 d3 d4 sx)
    have HV21 := Lib.hid (HV21.out.put6 (g := g23) (by simp) (by omega) B0 B1 B2 B3 B4 m0 m1 m2 m3 m4 d0 d1 d2 d3 d4 sx)
    have HV22 := Lib.hid (HV22.out.put6 (g := g23) (by simp) (by omega) B0 B1 B2 B3 B4 m0 m1 m2 m3 m4 d0 d1 d2 d3 d4 sx)
    have HV23 := Lib.hid hv
    rw [hw6]
    obtain ⟨wn, hwm⟩ : ∃ W, put6 wn g23 B0 B1 B2 B3 B4 m0 m1 m2 m3 m4 d0 d1 d2 d3 d4 sx = W := ⟨_, rfl⟩
    rw [hwm] at HBS HV20 HV21 HV22 HV23
    rw [hwm]
    clear hwm hw6 hv hsa hap k0 y0 k1 y1 k2 y2 k3 y3 k4 y4 k5 y5 HK23 HR19
    refine hK.out _ _ HBS.out (fun hHeld => ?_)
    clear hK K
    (try dsimp only [Act.put]); try simp only [pt1, pt2, pt3]
    refine wpAnyH_done (by kernel_rfl) ?_ _
    exact hQ _ _ _ _ _ _ _ _ _ _ _ _ _ _ _ _ _ _ _ _ g20 g21 g22 g23 wn HBS.out HV20.out HV21.out HV22.out HV23.out f20 f21 f22 f23 (by omega) (by omega) (by omega) (by omega) (by omega) (by omega)
  intro key
  (try dsimp only [Act.put] at key); try simp only [pt1, pt2, pt3] at key
  have K_4_9_14_19_20_21_22_23 := Lib.hid key
  clear key
  refine memo (fun a G => ∀ (wn : World) (g20 g21 g22 g23 : Nat) (v4 v9 v14 : Value), (Wk14 S i pc pt ph pl wc wn [g20, g21, g22, g23] [v4, v9, v14]) → G (((((((a.put (some 7) (.pointer (some ⟨g20, 0, none⟩))).put (some 8) (.pointer (some ⟨g21, 0, none⟩))).put (some 9) (.pointer (some ⟨g22, 0, none⟩))).put (some 10) (.pointer (some ⟨g23, 0, none⟩))).put (some 29) v4).put (some 34) v9).put (some 39) v14) wn) 5 #[true, true, true, true, true, true, true, true, true, true, true, true, true, true, true, true, true, true, true, false, true, true, true, true, false, false, false, false] ?_ ?_
  · (try dsimp only [Act.put]); try simp only [pt1, pt2, pt3]
    intro wn g20 g21 g22 g23 v4 v9 v14 HW
    have HW := Lib.hid HW
    refine rdy 19 (fun K hK => ?_)
    go_simp
    refine (putLock14_any _ S i pl.u pl.h _ (HLP.out.step HW.out.1).st).mono ?_
    rintro en w2 ⟨A0, A1, A2, A3, A4, n0, n1, n2, n3, n4, c0, c1, c2, c3, c4, sx, rfl, hsa, hfa, hb⟩
    have hw := HW.out.ca hb (Rs14.new hsa hfa HW.out.2.1)
    refine hK.out _ _ hw.1 (fun hHeld => ?_)
    clear hK K
    (try dsimp only [Act.put]); try simp only [pt1, pt2, pt3]
    exact K_4_9_14_19_20_21_22_23.out _ _ _ _ _ _ _ _ _ hw
  intro key
  (try dsimp only [Act.put] at key); try simp only [pt1, pt2, pt3] at key
  have K_4_9_14_20_21_22_23 := Lib.hid key
  clear key
  refine memo (fun a G => ∀ (wn : World) (g20 g21 g22 : Nat) (v4 v9 v14 v19 : Value), (Wk14 S i pc pt ph pl wc wn [g20, g21, g22] [v4, v9, v14, v19]) → G (((((((a.put (some 7) (.pointer (some ⟨g20, 0, none⟩))).put (some 8) (.pointer (some ⟨g21, 0, none⟩))).put (some 9) (.pointer (some ⟨g22, 0, none⟩))).put (some 29) v4).put (some 34) v9).put (some 39) v14).put (some 44) v19) wn) 5 #[true, true, true, true, true, true, true, true, true, true, true, true, true, true, true, true, true, true, true, true, true, true, true, false, false, false, false, false] ?_ ?_
  · (try dsimp only [Act.put]); try simp only [pt1, pt2, pt3]
    intro wn g20 g21 g22 v4 v9 v14 v19 HW
    have HW := Lib.hid HW
    refine rdy 23 (fun K hK => ?_)
    go_simp
    have hw := HW.out.al [g20, g21, g22] []
    refine hK.out _ _ hw.1 (fun hHeld => ?_)
    clear hK K
    (try dsimp only [Act.put]); try simp only [pt1, pt2, pt3]
    exact K_4_9_14_19_20_21_22_23.out _ _ _ _ _ _ _ _ _ hw
  intro key
  (try dsimp only [Act.put] at key); try simp only [pt1, pt2, pt3] at key
  have K_4_9_14_19_20_21_22 := Lib.hid key
  clear key
  refine memo (fun a G => ∀ (wn : World) (g20 g21 g23 : Nat) (v4 v9 v14 v19 : Value), (Wk14 S i pc pt ph pl wc wn [g20, g21, g23] [v4, v9, v14, v19]) → G (((((((a.put (some 7) (.pointer (some ⟨g20, 0, none⟩))).put (some 8) (.pointer (some ⟨g21, 0, none⟩))).put (some 10) (.pointer (some ⟨g23, 0, none⟩))).put (some 29) v4).put (some 34) v9).put (some 39) v14).put (some 44) v19) wn) 5 #[true, true, true, true, true, true, true, true, true, true, true, true, true, true, true, true, true, true, true, true, true, true, false, true, false, false, false, false] ?_ ?_
  · (try dsimp only [Act.put]); try simp only [pt1, pt2, pt3]
    intro wn g20 g21 g23 v4 v9 v14 v19 HW
    have HW := Lib.hid HW
    refine rdy 22 (fun K hK => ?_)
    go_simp
    have hw := HW.out.al [g20, g21] [g23]
    refine hK.out _ _ hw.1 (fun hHeld => ?_)
    clear hK K
    (try dsimp only [Act.put]); try simp only [pt1, pt2, pt3]
    exact K_4_9_14_19_20_21_22_23.out _ _ _ _ _ _ _ _ _ hw
  intro key
  (try dsimp only [Act.put] at key); try simp only [pt1, pt2, pt3] at key
  have K_4_9_14_19_20_21_23 := Lib.hid key
  clear key
  refine memo (fun a G => ∀ (wn : World) (g20 g22 g23 : Nat) (v4 v9 v14 v19 : Value), (Wk14 S i pc pt ph pl wc wn [g20, g22, g23] [v4, v9, v14, v19]) → G (((((((a.put (some 7) (.pointer (some ⟨g20, 0, none⟩))).put (some 9) (.pointer (some ⟨g22, 0, none⟩))).put (some 10) (.pointer (some ⟨g23, 0, none⟩))).put (some 29) v4).put (some 34) v9).put (some 39) v14).put (some 44) v19) wn) 5 #[true, true, true, true, true, true, true, true, true, true, true, true, true, true, true, true, true, true, true, true, true, false, true, true, false, false, false, false] ?_ ?_
  · (try dsimp only [Act.put]); try simp only [pt1, pt2, pt3]
    intro wn g20 g22 g23 v4 v9 v14 v19 HW
    have HW := Lib.hid HW
    refine rdy 21 (fun K hK => ?_)
    go_simp
    have hw := HW.out.al [g20] [g22, g23]
    refine hK.out _ _ hw.1 (fun hHeld => ?_)
    clear hK K
    (try dsimp only [Act.put]); try simp only [pt1, pt2, pt3]
    exact K_4_9_14_19_20_21_22_23.out _ _ _ _ _ _ _ _ _ hw
  intro key
  (try dsimp only [Act.put] at key); try simp only [pt1, pt2, pt3] at key
  have K_4_9_14_19_20_22_23 := Lib.hid key
  clear key
  refine memo (fun a G => ∀ (wn : World) (g21 g22 g23 : Nat) (v4 v9 v14 v19 : Value), (Wk14 S i pc pt ph pl wc wn [g21, g22, g23] [v4, v9, v14, v19]) → G (((((((a.put (some 8) (.pointer (some ⟨g21, 0, none⟩))).put (some 9) (.pointer (some ⟨g22, 0, none⟩))).put (some 10) (.pointer (some ⟨g23, 0, none⟩))).put (some 29) v4).put (some 34) v9).put (some 39) v14).put (some 44) v19) wn) 5 #[true, true, true, true, true, true, true, true, true, true, true, true, true, true, true, true, true, true, true, true, false, true, true, true, false, false, false, false] ?_ ?_
  · (try dsimp only [Act.put]); try simp only [pt1, pt2, pt3]
    intro wn g21 g22 g23 v4 v9 v14 v19 HW
    have HW := Lib.hid HW
    refine rdy 20 (fun K hK => ?_)
    go_simp
    have hw := HW.out.al [] [g21, g22, g23]
    refine hK.out _ _ hw.1 (fun hHeld => ?_)
    clear hK K
    (try dsimp only [Act.put]); try simp only [pt1, pt2, pt3]
    exact K_4_9_14_19_20_21_22_23.out _ _ _ _ _ _ _ _ _ hw
  intro key
  (try dsimp only [Act.put] at key); try simp only [pt1, pt2, pt3] at key
  have K_4_9_14_19_21_22_23 := Lib.hid key
  clear key
  refine memo (fun a G => ∀ (wn : World) (g20 g21 g22 g23 : Nat) (v4 v9 : Value), (Wk14 S i pc pt ph pl wc wn [g20, g21, g22, g23] [v4, v9]) → G ((((((a.put (some 7) (.pointer (some ⟨g20, 0, none⟩))).put (some 8) (.pointer (some ⟨g21, 0, none⟩))).put (some 9) (.pointer (some ⟨g22, 0, none⟩))).put (some 10) (.pointer (some ⟨g23, 0, none⟩))).put (some 29) v4).put (some 34) v9) wn) 6 #[true, true, true, true, true, true, true, true, true, true, true, true, true, true, false, true, true, true, true, false, true, true, true, true, false, false, false, false] ?_ ?_
  · (try dsimp only [Act.put]); try simp only [pt1, pt2, pt3]
    intro wn g20 g21 g22 g23 v4 v9 HW
    have HW := Lib.hid HW
    refine rdy 14 (fun K hK => ?_)
    go_simp
    refine (putThread14_any _ S i ph.s ph.f ph.c ph.q ph.u _ (HLP.out.step HW.out.1).st).mono ?_
    rintro en w2 ⟨A0, A1, A2, A3, A4, n0, n1, n2, n3, n4, c0, c1, c2, c3, c4, sx, rfl, hsa, hfa, hb⟩
    have hw := HW.out.ca hb (Rs14.new hsa hfa HW.out.2.1)
    refine hK.out _ _ hw.1 (fun hHeld => ?_)
    clear hK K
    (try dsimp only [Act.put]); try simp only [pt1, pt2, pt3]
    exact K_4_9_14_20_21_22_23.out _ _ _ _ _ _ _ _ hw
  intro key
  (try dsimp only [Act.put] at key); try simp only [pt1, pt2, pt3] at key
  have K_4_9_20_21_22_23 := Lib.hid key
  clear key
  refine memo (fun a G => ∀ (wn : World) (g20 g21 g22 : Nat) (v4 v9 v14 : Value), (Wk14 S i pc pt ph pl wc wn [g20, g21, g22] [v4, v9, v14]) → G ((((((a.put (some 7) (.pointer (some ⟨g20, 0, none⟩))).put (some 8) (.pointer (some ⟨g21, 0, none⟩))).put (some 9) (.pointer (some ⟨g22, 0, none⟩))).put (some 29) v4).put (some 34) v9).put (some 39) v14) wn) 6 #[true, true, true, true, true, true, true, true, true, true, true, true, true, true, true, true, true, true, true, false, true, true, true, false, false, false, false, false] ?_ ?_
  · (try dsimp only [Act.put]); try simp only [pt1, pt2, pt3]
    intro wn g20 g21 g22 v4 v9 v14 HW
    have HW := Lib.hid HW
    refine wpAnyH_ready (rs := [19, 23]) (by kernel_rfl) (by simp) (rc (fun K hK => ?_) (rc (fun K hK => ?_) AllReadyH.nil))
    · skip
      go_simp
      refine (putLock14_any _ S i pl.u pl.h _ (HLP.out.step HW.out.1).st).mono ?_
      rintro en w2 ⟨A0, A1, A2, A3, A4, n0, n1, n2, n3, n4, c0, c1, c2, c3, c4, sx, rfl, hsa, hfa, hb⟩
      have hw := HW.out.ca hb (Rs14.new hsa hfa HW.out.2.1)
      refine hK.out _ _ hw.1 (fun hHeld => ?_)
      clear hK K
      (try dsimp only [Act.put]); try simp only [pt1, pt2, pt3]
      exact K_4_9_14_19_20_21_22.out _ _ _ _ _ _ _ _ hw
    · skip
      go_simp
      have hw := HW.out.al [g20, g21, g22] []
      refine hK.out _ _ hw.1 (fun hHeld => ?_)
      clear hK K
      (try dsimp only [Act.put]); try simp only [pt1, pt2, pt3]
      exact K_4_9_14_20_21_22_23.out _ _ _ _ _ _ _ _ hw
  intro key
  (try dsimp only [Act.put] at key); try simp only [pt1, pt2, pt3] at key
  have K_4_9_14_20_21_22 := Lib.hid key
  clear key
  refine memo (fun a G => ∀ (wn : World) (g20 g21 g23 : Nat) (v4 v9 v14 : Value), (Wk14 S i pc pt ph pl wc wn [g20, g21, g23] [v4, v9, v14]) → G ((((((a.put (some 7) (.pointer (some ⟨g20, 0, none⟩))).put (some 8) (.pointer (some ⟨g21, 0, none⟩))).put (some 10) (.pointer (some ⟨g23, 0, none⟩))).put (some 29) v4).put (some 34) v9).put (some 39) v14) wn) 6 #[true, true, true, true, true, true, true, true, true, true, true, true, true, true, true, true, true, true, true, false, true, true, false, true, false, false, false, false] ?_ ?_
  · (try dsimp only [Act.put]); try simp only [pt1, pt2, pt3]
    intro wn g20 g21 g23 v4 v9 v14 HW
    have HW := Lib.hid HW
    refine wpAnyH_ready (rs := [19, 22]) (by kernel_rfl) (by simp) (rc (fun K hK => ?_) (rc (fun K hK => ?_) AllReadyH.nil))
    · skip
      go_simp
      refine (putLock14_any _ S i pl.u pl.h _ (HLP.out.step HW.out.1).st).mono ?_
      rintro en w2 ⟨A0, A1, A2, A3, A4, n0, n1, n2, n3, n4, c0, c1, c2, c3, c4, sx, rfl, hsa, hfa, hb⟩
      have hw := HW.out.ca hb (Rs14.new hsa hfa HW.out.2.1)
      refine hK.out _ _ hw.1 (fun hHeld => ?_)
      clear hK K
      (try dsimp only [Act.put]); try simp only [pt1, pt2, pt3]
      exact K_4_9_14_19_20_21_23.out _ _ _ _ _ _ _ _ hw
    · skip
      go_simp
      have hw := HW.out.al [g20, g21] [g23]
      refine hK.out _ _ hw.1 (fun hHeld => ?_)
      clear hK K
      (try dsimp only [Act.put]); try simp only [pt1, pt2, pt3]
      exact K_4_9_14_20_21_22_23.out _ _ _ _ _ _ _ _ hw
  intro key
  (try dsimp only [Act.put] at key); try simp only [pt1, pt2, pt3] at key
  have K_4_9_14_20_21_23 := Lib.hid key
  clear key
  refine memo (fun a G => ∀ (wn : World) (g20 g22 g23 : Nat) (v4 v9 v14 : Value), (Wk14 S i pc pt ph pl wc wn [g20, g22, g23] [v4, v9, v14]) → G ((((((a.put (some 7) (.pointer (some ⟨g20, 0, none⟩))).put (some 9) (.pointer (some ⟨g22, 0, none⟩))).put (some 10) (.pointer (some ⟨g23, 0, none⟩))).put (some 29) v4).put (some 34) v9).put (some 39) v14) wn) 6 #[true, true, true, true, true, true, true, true, true, true, true, true, true, true, true, true, true, true, true, false, true, false, true, true, false, false, false, false] ?_ ?_
  · (try dsimp only [Act.put]); try simp only [pt1, pt2, pt3]
    intro wn g20 g22 g23 v4 v9 v14 HW
    have HW := Lib.hid HW
    refine wpAnyH_ready (rs := [19, 21]) (by kernel_rfl) (by simp) (rc (fun K hK => ?_) (rc (fun K hK => ?_) AllReadyH.nil))
    · skip
      go_simp
      refine (putLock14_any _ S i pl.u pl.h _ (HLP.out.step HW.out.1).st).mono ?_
      rintro en w2 ⟨A0, A1, A2, A3, A4, n0, n1, n2, n3, n4, c0, c1, c2, c3, c4, sx, rfl, hsa, hfa, hb⟩
      have hw := HW.out.ca hb (Rs14.new hsa hfa HW.out.2.1)
      refine hK.out _ _ hw.1 (fun hHeld => ?_)
      clear hK K
      (try dsimp only [Act.put]); try simp only [pt1, pt2, pt3]
      exact K_4_9_14_19_20_22_23.out _ _ _ _ _ _ _ _ hw
    · skip
      go_simp
      have hw := HW.out.al [g20] [g22, g23]
      refine hK.out _ _ hw.1 (fun hHeld => ?_)
      clear hK K
      (try dsimp only [Act.put]); try simp only [pt1, pt2, pt3]
      exact K_4_9_14_20_21_22_23.out _ _ _ _ _ _ _ _ hw
  intro key
  (try dsimp only [Act.put] at key); try simp only [pt1, pt2, pt3] at key
  have K_4_9_14_20_22_23 := Lib.hid key
  clear key
  refine memo (fun a G => ∀ (wn : World) (g21 g22 g23 : Nat) (v4 v9 v14 : Value), (Wk14 S i pc pt ph pl wc wn [g21, g22, g23] [v4, v9, v14]) → G ((((((a.put (some 8) (.pointer (some ⟨g21, 0, none⟩))).put (some 9) (.pointer (some ⟨g22, 0, none⟩))).put (some 10) (.pointer (some ⟨g23, 0, none⟩))).put (some 29) v4).put (some 34) v9).put (some 39) v14) wn) 6 #[true, true, true, true, true, true, true, true, true, true, true, true, true, true, true, true, true, true, true, false, false, true, true, true, false, false, false, false] ?_ ?_
  · (try dsimp only [Act.put]); try simp only [pt1, pt2, pt3]
    intro wn g21 g22 g23 v4 v9 v14 HW
    have HW := Lib.hid HW
    refine wpAnyH_ready (rs := [19, 20]) (by kernel_rfl) (by simp) (rc (fun K hK => ?_) (rc (fun K hK => ?_) AllReadyH.nil))
    · skip
      go_simp
      refine (putLock14_any _ S i pl.u pl.h _ (HLP.out.step HW.out.1).st).mono ?_
      rintro en w2 ⟨A0, A1, A2, A3, A4, n0, n1, n2, n3, n4, c0, c1, c2, c3, c4, sx, rfl, hsa, hfa, hb⟩
      have hw := HW.out.ca hb (Rs14.new hsa hfa HW.out.2.1)
      refine hK.out _ _ hw.1 (fun hHeld => ?_)
      clear hK K
      (try dsimp only [Act.put]); try simp only [pt1, pt2, pt3]
      exact K_4_9_14_19_21_22_23.out _ _ _ _ _ _ _ _ hw
    · skip
      go_simp
      have hw := HW.out.al [] [g21, g22, g23]
      refine hK.out _ _ hw.1 (fun hHeld => ?_)
      clear hK K
      (try dsimp only [Act.put]); try simp only [pt1, pt2, pt3]
      exact K_4_9_14_20_21_22_23.out _ _ _ _ _ _ _ _ hw
  intro key
  (try dsimp only [Act.put] at key); try simp only [pt1, pt2, pt3] at key
  have K_4_9_14_21_22_23 := Lib.hid key
  clear key
  refine memo (fun a G => ∀ (wn : World) (g20 g21 : Nat) (v4 v9 v14 v19 : Value), (Wk14 S i pc pt ph pl wc wn [g20, g21] [v4, v9, v14, v19]) → G ((((((a.put (some 7) (.pointer (some ⟨g20, 0, none⟩))).put (some 8) (.pointer (some ⟨g21, 0, none⟩))).put (some 29) v4).put (some 34) v9).put (some 39) v14).put (some 44) v19) wn) 6 #[true, true, true, true, true, true, true, true, true, true, true, true, true, true, true, true, true, true, true, true, true, true, false, false, false, false, false, false] ?_ ?_
  · (try dsimp only [Act.put]); try simp only [pt1, pt2, pt3]
    intro wn g20 g21 v4 v9 v14 v19 HW
    have HW := Lib.hid HW
    refine wpAnyH_ready (rs := [22, 23]) (by kernel_rfl) (by simp) (rc (fun K hK => ?_) (rc (fun K hK => ?_) AllReadyH.nil))
    · skip
      go_simp
      have hw := HW.out.al [g20, g21] []
      refine hK.out _ _ hw.1 (fun hHeld => ?_)
      clear hK K
      (try dsimp only [Act.put]); try simp only [pt1, pt2, pt3]
      exact K_4_9_14_19_20_21_22.out _ _ _ _ _ _ _ _ hw
    · skip
      go_simp
      have hw := HW.out.al [g20, g21] []
      refine hK.out _ _ hw.1 (fun hHeld => ?_)
      clear hK K
      (try dsimp only [Act.put]); try simp only [pt1, pt2, pt3]
      exact K_4_9_14_19_20_21_23.out _ _ _ _ _ _ _ _ hw
  intro key
  (try dsimp only [Act.put] at key); try simp only [pt1, pt2, pt3] at key
  have K_4_9_14_19_20_21 := Lib.hid key
  clear key
  refine memo (fun a G => ∀ (wn : World) (g20 g22 : Nat) (v4 v9 v14 v19 : Value), (Wk14 S i pc pt ph pl wc wn [g20, g22] [v4, v9, v14, v19]) → G ((((((a.put (some 7) (.pointer (some ⟨g20, 0, none⟩))).put (some 9) (.pointer (some ⟨g22, 0, none⟩))).put (some 29) v4).put (some 34) v9).put (some 39) v14).put (some 44) v19) wn) 6 #[true, true, true, true, true, true, true, true, true, true, true, true, true, true, true, true, true, true, true, true, true, false, true, false, false, false, false, false] ?_ ?_
  · (try dsimp only [Act.put]); try simp only [pt1, pt2, pt3]
    intro wn g20 g22 v4 v9 v14 v19 HW
    have HW := Lib.hid HW
    refine wpAnyH_ready (rs := [21, 23]) (by kernel_rfl) (by simp) (rc (fun K hK => ?_) (rc (fun K hK => ?_) AllReadyH.nil))
    · skip
      go_simp
      have hw := HW.out.al [g20] [g22]
      refine hK.out _ _ hw.1 (fun hHeld => ?_)
      clear hK K
      (try dsimp only [Act.put]); try simp only [pt1, pt2, pt3]
      exact K_4_9_14_19_20_21_22.out _ _ _ _ _ _ _ _ hw
    · skip
      go_simp
      have hw := HW.out.al [g20, g22] []
      refine hK.out _ _ hw.1 (fun hHeld => ?_)
      clear hK K
      (try dsimp only [Act.put]); try simp only [pt1, pt2, pt3]
      exact K_4_9_14_19_20_22_23.out _ _ _ _ _ _ _ _ hw
  intro key
  (try dsimp only [Act.put] at key); try simp only [pt1, pt2, pt3] at key
  have K_4_9_14_19_20_22 := Lib.hid key
  clear key
  refine memo (fun a G => ∀ (wn : World) (g20 g23 : Nat) (v4 v9 v14 v19 : Value), (Wk14 S i pc pt ph pl wc wn [g20, g23] [v4, v9, v14, v19]) → G ((((((a.put (some 7) (.pointer (some ⟨g20, 0, none⟩))).put (some 10) (.pointer (some ⟨g23, 0, none⟩))).put (some 29) v4).put (some 34) v9).put (some 39) v14).put (some 44) v19) wn) 6 #[true, true, true, true, true, true, true, true, true, true, true, true, true, true, true, true, true, true, true, true, true, false, false, true, false, false, false, false] ?_ ?_
  · (try dsimp only [Act.put]); try simp only [pt1, pt2, pt3]
    intro wn g20 g23 v4 v9 v14 v19 HW
    have HW := Lib.hid HW
    refine wpAnyH_ready (rs := [21, 22]) (by kernel_rfl) (by simp) (rc (fun K hK => ?_) (rc (fun K hK => ?_) AllReadyH.nil))
    · skip
      go_simp
      have hw := HW.out.al [g20] [g23]
      refine hK.out _ _ hw.1 (fun hHeld => ?_)
      clear hK K
      (try dsimp only [Act.put]); try simp only [pt1, pt2, pt3]
      exact K_4_9_14_19_20_21_23.out _ _ _ _ _ _ _ _ hw
    · skip
      go_simp
      have hw := HW.out.al [g20] [g23]
      refine hK.out _ _ hw.1 (fun hHeld => ?_)
      clear hK K
      (try dsimp only [Act.put]); try simp only [pt1, pt2, pt3]
      exact K_4_9_14_19_20_22_23.out _ _ _ _ _ _ _ _ hw
  intro key
  (try dsimp only [Act.put] at key); try simp only [pt1, pt2, pt3] at key
  have K_4_9_14_19_20_23 := Lib.hid key
  clear key
  refine memo (fun a G => ∀ (wn : World) (g21 g22 : Nat) (v4 v9 v14 v19 : Value), (Wk14 S i pc pt ph pl wc wn [g21, g22] [v4, v9, v14, v19]) → G ((((((a.put (some 8) (.pointer (some ⟨g21, 0, none⟩))).put (some 9) (.pointer (some ⟨g22, 0, none⟩))).put (some 29) v4).put (some 34) v9).put (some 39) v14).put (some 44) v19) wn) 6 #[true, true, true, true, true, true, true, true, true, true, true, true, true, true, true, true, true, true, true, true, false, true, true, false, false, false, false, false] ?_ ?_
  · (try dsimp only [Act.put]); try simp only [pt1, pt2, pt3]
    intro wn g21 g22 v4 v9 v14 v19 HW
    have HW := Lib.hid HW
    refine wpAnyH_ready (rs := [20, 23]) (by kernel_rfl) (by simp) (rc (fun K hK => ?_) (rc (fun K hK => ?_) AllReadyH.nil))
    · skip
      go_simp
      have hw := HW.out.al [] [g21, g22]
      refine hK.out _ _ hw.1 (fun hHeld => ?_)
      clear hK K
      (try dsimp only [Act.put]); try simp only [pt1, pt2, pt3]
      exact K_4_9_14_19_20_21_22.out _ _ _ _ _ _ _ _ hw
    · skip
      go_simp
      have hw := HW.out.al [g21, g22] []
      refine hK.out _ _ hw.1 (fun hHeld => ?_)
      clear hK K
      (try dsimp only [Act.put]); try simp only [pt1, pt2, pt3]
      exact K_4_9_14_19_21_22_23.out _ _ _ _ _ _ _ _ hw
  intro key
  (try dsimp only [Act.put] at key); try simp only [pt1, pt2, pt3] at key
  have K_4_9_14_19_21_22 := Lib.hid key
  clear key
  refine memo (fun a G => ∀ (wn : World) (g21 g23 : Nat) (v4 v9 v14 v19 : Value), (Wk14 S i pc pt ph pl wc wn [g21, g23] [v4, v9, v14, v19]) → G ((((((a.put (some 8) (.pointer (some ⟨g21, 0, none⟩))).put (some 10) (.pointer (some ⟨g23, 0, none⟩))).put (some 29) v4).put (some 34) v9).put (some 39) v14).put (some 44) v19) wn) 6 #[true, true, true, true, true, true, true, true, true, true, true, true, true, true, true, true, true, true, true, true, false, true, false, true, false, false, false, false] ?_ ?_
  · (try dsimp only [Act.put]); try simp only [pt1, pt2, pt3]
    intro wn g21 g23 v4 v9 v14 v19 HW
    have HW := Lib.hid HW
    refine wpAnyH_ready (rs := [20, 22]) (by kernel_rfl) (by simp) (rc (fun K hK => ?_) (rc (fun K hK => ?_) AllReadyH.nil))
    · skip
      go_simp
      have hw := HW.out.al [] [g21, g23]
      refine hK.out _ _ hw.1 (fun hHeld => ?_)
      clear hK K
      (try dsimp only [Act.put]); try simp only [pt1, pt2, pt3]
      exact K_4_9_14_19_20_21_23.out _ _ _ _ _ _ _ _ hw
    · skip
      go_simp
      have hw := HW.out.al [g21] [g23]
      refine hK.out _ _ hw.1 (fun hHeld => ?_)
      clear hK K
      (try dsimp only [Act.put]); try simp only [pt1, pt2, pt3]
      exact K_4_9_14_19_21_22_23.out _ _ _ _ _ _ _ _ hw
  intro key
  (try dsimp only [Act.put] at key); try simp only [pt1, pt2, pt3] at key
  have K_4_9_14_19_21_23 := Lib.hid key
  clear key
  refine memo (fun a G => ∀ (wn : World) (g22 g23 : Nat) (v4 v9 v14 v19 : Value), (Wk14 S i pc pt ph pl wc wn [g22, g23] [v4, v9, v14, v19]) → G ((((((a.put (some 9) (.pointer (some ⟨g22, 0, none⟩))).put (some 10) (.pointer (some ⟨g23, 0, none⟩))).put (some 29) v4).put (some 34) v9).put (some 39) v14).put (some 44) v19) wn) 6 #[true, true, true, true, true, true, true, true, true, true, true, true, true, true, true, true, true, true, true, true, false, false, true, true, false, false, false, false] ?_ ?_
  · (try dsimp only [Act.put]); try simp only [pt1, pt2, pt3]
    intro wn g22 g23 v4 v9 v14 v19 HW
    have HW := Lib.hid HW
    refine wpAnyH_ready (rs := [20, 21]) (by kernel_rfl) (by simp) (rc (fun K hK => ?_) (rc (fun K hK => ?_) AllReadyH.nil))
    · skip
      go_simp
      have hw := HW.out.al [] [g22, g23]
      refine hK.out _ _ hw.1 (fun hHeld => ?_)
      clear hK K
      (try dsimp only [Act.put]); try simp only [pt1, pt2, pt3]
      exact K_4_9_14_19_20_22_23.out _ _ _ _ _ _ _ _ hw
    · skip
      go_simp
      have hw := HW.out.al [] [g22, g23]
      refine hK.out _ _ hw.1 (fun hHeld => ?_)
      clear hK K
      (try dsimp only [Act.put]); try simp only [pt1, pt2, pt3]
      exact K_4_9_14_19_21_22_23.out _ _ _ _ _ _ _ _ hw
  intro key
  (try dsimp only [Act.put] at key); try simp only [pt1, pt2, pt3] at key
  have K_4_9_14_19_22_23 := Lib.hid key
  clear key
  refine memo (fun a G => ∀ (wn : World) (g20 g21 g22 g23 : Nat) (v4 : Value), (Wk14 S i pc pt ph pl wc wn [g20, g21, g22, g23] [v4]) → G (((((a.put (some 7) (.pointer (some ⟨g20, 0, none⟩))).put (some 8) (.pointer (some ⟨g21, 0, none⟩))).put (some 9) (.pointer (some ⟨g22, 0, none⟩))).put (some 10) (.pointer (some ⟨g23, 0, none⟩))).put (some 29) v4) wn) 7 #[true, true, true, true, true, true, true, true, true, false, true, true, true, true, false, true, true, true, true, false, true, true, true, true, false, false, false, false] ?_ ?_
  · (try dsimp only [Act.put]); try simp only [pt1, pt2, pt3]
    intro wn g20 g21 g22 g23 v4 HW
    have HW := Lib.hid HW
    refine rdy 9 (fun K hK => ?_)
    go_simp
    refine (putTicket14_any _ S i pt.u pt.c pt.a pt.k pt.t pt.o _ (HLP.out.step HW.out.1).st).mono ?_
    rintro en w2 ⟨A0, A1, A2, A3, A4, n0, n1, n2, n3, n4, c0, c1, c2, c3, c4, sx, rfl, hsa, hfa, hb⟩
    have hw := HW.out.ca hb (Rs14.new hsa hfa HW.out.2.1)
    refine hK.out _ _ hw.1 (fun hHeld => ?_)
    clear hK K
    (try dsimp only [Act.put]); try simp only [pt1, pt2, pt3]
    exact K_4_9_20_21_22_23.out _ _ _ _ _ _ _ hw
  intro key
  (try dsimp only [Act.put] at key); try simp only [pt1, pt2, pt3] at key
  have K_4_20_21_22_23 := Lib.hid key
  clear key
  refine memo (fun a G => ∀ (wn : World) (g20 g21 g22 : Nat) (v4 v9 : Value), (Wk14 S i pc pt ph pl wc wn [g20, g21, g22] [v4, v9]) → G (((((a.put (some 7) (.pointer (some ⟨g20, 0, none⟩))).put (some 8) (.pointer (some ⟨g21, 0, none⟩))).put (some 9) (.pointer (some ⟨g22, 0, none⟩))).put (some 29) v4).put (some 34) v9) wn) 7 #[true, true, true, true, true, true, true, true, true, true, true, true, true, true, false, true, true, true, true, false, true, true, true, false, false, false, false, false] ?_ ?_
  · (try dsimp only [Act.put]); try simp only [pt1, pt2, pt3]
    intro wn g20 g21 g22 v4 v9 HW
    have HW := Lib.hid HW
    refine wpAnyH_ready (rs := [14, 23]) (by kernel_rfl) (by simp) (rc (fun K hK => ?_) (rc (fun K hK => ?_) AllReadyH.nil))
    · skip
      go_simp
      refine (putThread14_any _ S i ph.s ph.f ph.c ph.q ph.u _ (HLP.out.step HW.out.1).st).mono ?_
      rintro en w2 ⟨A0, A1, A2, A3, A4, n0, n1, n2, n3, n4, c0, c1, c2, c3, c4, sx, rfl, hsa, hfa, hb⟩
      have hw := HW.out.ca hb (Rs14.new hsa hfa HW.out.2.1)
      refine hK.out _ _ hw.1 (fun hHeld => ?_)
      clear hK K
      (try dsimp only [Act.put]); try simp only [pt1, pt2, pt3]
      exact K_4_9_14_20_21_22.out _ _ _ _ _ _ _ hw
    · skip
      go_simp
      have hw := HW.out.al [g20, g21, g22] []
      refine hK.out _ _ hw.1 (fun hHeld => ?_)
      clear hK K
      (try dsimp only [Act.put]); try simp only [pt1, pt2, pt3]
      exact K_4_9_20_21_22_23.out _ _ _ _ _ _ _ hw
  intro key
  (try dsimp only [Act.put] at key); try simp only [pt1, pt2, pt3] at key
  have K_4_9_20_21_22 := Lib.hid key
  clear key
  refine memo (fun a G => ∀ (wn : World) (g20 g21 g23 : Nat) (v4 v9 : Value), (Wk14 S i pc pt ph pl wc wn [g20, g21, g23] [v4, v9]) → G (((((a.put (some 7) (.pointer (some ⟨g20, 0, none⟩))).put (some 8) (.pointer (some ⟨g21, 0, none⟩))).put (some 10) (.pointer (some ⟨g23, 0, none⟩))).put (some 29) v4).put (some 34) v9) wn) 7 #[true, true, true, true, true, true, true, true, true, true, true, true, true, true, false, true, true, true, true, false, true, true, false, true, false, false, false, false] ?_ ?_
  · (try dsimp only [Act.put]); try simp only [pt1, pt2, pt3]
    intro wn g20 g21 g23 v4 v9 HW
    have HW := Lib.hid HW
    refine wpAnyH_ready (rs := [14, 22]) (by kernel_rfl) (by simp) (rc (fun K hK => ?_) (rc (fun K hK => ?_) AllReadyH.nil))
    · skip
      go_simp
      refine (putThread14_any _ S i ph.s ph.f ph.c ph.q ph.u _ (HLP.out.step HW.out.1).st).mono ?_
      rintro en w2 ⟨A0, A1, A2, A3, A4, n0, n1, n2, n3, n4, c0, c1, c2, c3, c4, sx, rfl, hsa, hfa, hb⟩
      have hw := HW.out.ca hb (Rs14.new hsa hfa HW.out.2.1)
      refine hK.out _ _ hw.1 (fun hHeld => ?_)
      clear hK K
      (try dsimp only [Act.put]); try simp only [pt1, pt2, pt3]
      exact K_4_9_14_20_21_23.out _ _ _ _ _ _ _ hw
    · skip
      go_simp
      have hw := HW.out.al [g20, g21] [g23]
      refine hK.out _ _ hw.1 (fun hHeld => ?_)
      clear hK K
      (try dsimp only [Act.put]); try simp only [pt1, pt2, pt3]
      exact K_4_9_20_21_22_23.out _ _ _ _ _ _ _ hw
  intro key
  (try dsimp only [Act.put] at key); try simp only [pt1, pt2, pt3] at key
  have K_4_9_20_21_23 := Lib.hid key
  clear key
  refine memo (fun a G => ∀ (wn : World) (g20 g22 g23 : Nat) (v4 v9 : Value), (Wk14 S i pc pt ph pl wc wn [g20, g22, g23] [v4, v9]) → G (((((a.put (some 7) (.pointer (some ⟨g20, 0, none⟩))).put (some 9) (.pointer (some ⟨g22, 0, none⟩))).put (some 10) (.pointer (some ⟨g23, 0, none⟩))).put (some 29) v4).put (some 34) v9) wn) 7 #[true, true, true, true, true, true, true, true, true, true, true, true, true, true, false, true, true, true, true, false, true, false, true, true, false, false, false, false] ?_ ?_
  · (try dsimp only [Act.put]); try simp only [pt1, pt2, pt3]
    intro wn g20 g22 g23 v4 v9 HW
    have HW := Lib.hid HW
    refine wpAnyH_ready (rs := [14, 21]) (by kernel_rfl) (by simp) (rc (fun K hK => ?_) (rc (fun K hK => ?_) AllReadyH.nil))
    · skip
      go_simp
      refine (putThread14_any _ S i ph.s ph.f ph.c ph.q ph.u _ (HLP.out.step HW.out.1).st).mono ?_
      rintro en w2 ⟨A0, A1, A2, A3, A4, n0, n1, n2, n3, n4, c0, c1, c2, c3, c4, sx, rfl, hsa, hfa, hb⟩
      have hw := HW.out.ca hb (Rs14.new hsa hfa HW.out.2.1)
      refine hK.out _ _ hw.1 (fun hHeld => ?_)
      clear hK K
      (try dsimp only [Act.put]); try simp only [pt1, pt2, pt3]
      exact K_4_9_14_20_22_23.out _ _ _ _ _ _ _ hw
    · skip
      go_simp
      have hw := HW.out.al [g20] [g22, g23]
      refine hK.out _ _ hw.1 (fun hHeld => ?_)
      clear hK K
      (try dsimp only [Act.put]); try simp only [pt1, pt2, pt3]
      exact K_4_9_20_21_22_23.out _ _ _ _ _ _ _ hw
  intro key
  (try dsimp only [Act.put] at key); try simp only [pt1, pt2, pt3] at key
  have K_4_9_20_22_23 := Lib.hid key
  clear key
  refine memo (fun a G => ∀ (wn : World) (g21 g22 g23 : Nat) (v4 v9 : Value), (Wk14 S i pc pt ph pl wc wn [g21, g22, g23] [v4, v9]) → G (((((a.put (some 8) (.pointer (some ⟨g21, 0, none⟩))).put (some 9) (.pointer (some ⟨g22, 0, none⟩))).put (some 10) (.pointer (some ⟨g23, 0, none⟩))).put (some 29) v4).put (some 34) v9) wn) 7 #[true, true, true, true, true, true, true, true, true, true, true, true, true, true, false, true, true, true, true, false, false, true, true, true, false, false, false, false] ?_ ?_
  · (try dsimp only [Act.put]); try simp only [pt1, pt2, pt3]
    intro wn g21 g22 g23 v4 v9 HW
    have HW := Lib.hid HW
    refine wpAnyH_ready (rs := [14, 20]) (by kernel_rfl) (by simp) (rc (fun K hK => ?_) (rc (fun K hK => ?_) AllReadyH.nil))
    · skip
      go_simp
      refine (putThread14_any _ S i ph.s ph.f ph.c ph.q ph.u _ (HLP.out.step HW.out.1).st).mono ?_
      rintro en w2 ⟨A0, A1, A2, A3, A4, n0, n1, n2, n3, n4, c0, c1, c2, c3, c4, sx, rfl, hsa, hfa, hb⟩
      have hw := HW.out.ca hb (Rs14.new hsa hfa HW.out.2.1)
      refine hK.out _ _ hw.1 (fun hHeld => ?_)
      clear hK K
      (try dsimp only [Act.put]); try simp only [pt1, pt2, pt3]
      exact K_4_9_14_21_22_23.out _ _ _ _ _ _ _ hw
    · skip
      go_simp
      have hw := HW.out.al [] [g21, g22, g23]
      refine hK.out _ _ hw.1 (fun hHeld => ?_)
      clear hK K
      (try dsimp only [Act.put]); try simp only [pt1, pt2, pt3]
      exact K_4_9_20_21_22_23.out _ _ _ _ _ _ _ hw
  intro key
  (try dsimp only [Act.put] at key); try simp only [pt1, pt2, pt3] at key
  have K_4_9_21_22_23 := Lib.hid key
  clear key
  refine memo (fun a G => ∀ (wn : World) (g20 g21 : Nat) (v4 v9 v14 : Value), (Wk14 S i pc pt ph pl wc wn [g20, g21] [v4, v9, v14]) → G (((((a.put (some 7) (.pointer (some ⟨g20, 0, none⟩))).put (some 8) (.pointer (some ⟨g21, 0, none⟩))).put (some 29) v4).put (some 34) v9).put (some 39) v14) wn) 7 #[true, true, true, true, true, true, true, true, true, true, true, true, true, true, true, true, true, true, true, false, true, true, false, false, false, false, false, false] ?_ ?_
  · (try dsimp only [Act.put]); try simp only [pt1, pt2, pt3]
    intro wn g20 g21 v4 v9 v14 HW
    have HW := Lib.hid HW
    refine wpAnyH_ready (rs := [19, 22, 23]) (by kernel_rfl) (by simp) (rc (fun K hK => ?_) (rc (fun K hK => ?_) (rc (fun K hK => ?_) AllReadyH.nil)))
    · skip
      go_simp
      refine (putLock14_any _ S i pl.u pl.h _ (HLP.out.step HW.out.1).st).mono ?_
      rintro en w2 ⟨A0, A1, A2, A3, A4, n0, n1, n2, n3, n4, c0, c1, c2, c3, c4, sx, rfl, hsa, hfa, hb⟩
      have hw := HW.out.ca hb (Rs14.new hsa hfa HW.out.2.1)
      refine hK.out _ _ hw.1 (fun hHeld => ?_)
      clear hK K
      (try dsimp only [Act.put]); try simp only [pt1, pt2, pt3]
      exact K_4_9_14_19_20_21.out _ _ _ _ _ _ _ hw
    · skip
      go_simp
      have hw := HW.out.al [g20, g21] []
      refine hK.out _ _ hw.1 (fun hHeld => ?_)
      clear hK K
      (try dsimp only [Act.put]); try simp only [pt1, pt2, pt3]
      exact K_4_9_14_20_21_22.out _ _ _ _ _ _ _ hw
    · skip
      go_simp
      have hw := HW.out.al [g20, g21] []
      refine hK.out _ _ hw.1 (fun hHeld => ?_)
      clear hK K
      (try dsimp only [Act.put]); try simp only [pt1, pt2, pt3]
      exact K_4_9_14_20_21_23.out _ _ _ _ _ _ _ hw
  intro key
  (try dsimp only [Act.put] at key); try simp only [pt1, pt2, pt3] at key
  have K_4_9_14_20_21 := Lib.hid key
  clear key
  refine memo (fun a G => ∀ (wn : World) (g20 g22 : Nat) (v4 v9 v14 : Value), (Wk14 S i pc pt ph pl wc wn [g20, g22] [v4, v9, v14]) → G (((((a.put (some 7) (.pointer (some ⟨g20, 0, none⟩))).put (some 9) (.pointer (some ⟨g22, 0, none⟩))).put (some 29) v4).put (some 34) v9).put (some 39) v14) wn) 7 #[true, true, true, true, true, true, true, true, true, true, true, true, true, true, true, true, true, true, true, false, true, false, true, false, false, false, false, false] ?_ ?_
  · (try dsimp only [Act.put]); try simp only [pt1, pt2, pt3]
    intro wn g20 g22 v4 v9 v14 HW
    have HW := Lib.hid HW
    refine wpAnyH_ready (rs := [19, 21, 23]) (by kernel_rfl) (by simp) (rc (fun K hK => ?_) (rc (fun K hK => ?_) (rc (fun K hK => ?_) AllReadyH.nil)))
    · skip
      go_simp
      refine (putLock14_any _ S i pl.u pl.h _ (HLP.out.step HW.out.1).st).mono ?_
      rintro en w2 ⟨A0, A1, A2, A3, A4, n0, n1, n2, n3, n4, c0, c1, c2, c3, c4, sx, rfl, hsa, hfa, hb⟩
      have hw := HW.out.ca hb (Rs14.new hsa hfa HW.out.2.1)
      refine hK.out _ _ hw.1 (fun hHeld => ?_)
      clear hK K
      (try dsimp only [Act.put]); try simp only [pt1, pt2, pt3]
      exact K_4_9_14_19_20_22.out _ _ _ _ _ _ _ hw
    · skip
      go_simp
      have hw := HW.out.al [g20] [g22]
      refine hK.out _ _ hw.1 (fun hHeld => ?_)
      clear hK K
      (try dsimp only [Act.put]); try simp only [pt1, pt2, pt3]
      exact K_4_9_14_20_21_22.out _ _ _ _ _ _ _ hw
    · skip
      go_simp
      have hw := HW.out.al [g20, g22] []
      refine hK.out _ _ hw.1 (fun hHeld => ?_)
      clear hK K
      (try dsimp only [Act.put]); try simp only [pt1, pt2, pt3]
      exact K_4_9_14_20_22_23.out _ _ _ _ _ _ _ hw
  intro key
  (try dsimp only [Act.put] at key); try simp only [pt1, pt2, pt3] at key
  have K_4_9_14_20_22 := Lib.hid key
  clear key
  refine memo (fun a G => ∀ (wn : World) (g20 g23 : Nat) (v4 v9 v14 : Value), (Wk14 S i pc pt ph pl wc wn [g20, g23] [v4, v9, v14]) → G (((((a.put (some 7) (.pointer (some ⟨g20, 0, none⟩))).put (some 10) (.pointer (some ⟨g23, 0, none⟩))).put (some 29) v4).put (some 34) v9).put (some 39) v14) wn) 7 #[true, true, true, true, true, true, true, true, true, true, true, true, true, true, true, true, true, true, true, false, true, false, false, true, false, false, false, false] ?_ ?_
  · (try dsimp only [Act.put]); try simp only [pt1, pt2, pt3]
    intro wn g20 g23 v4 v9 v14 HW
    have HW := Lib.hid HW
    refine wpAnyH_ready (rs := [19, 21, 22]) (by kernel_rfl) (by simp) (rc (fun K hK => ?_) (rc (fun K hK => ?_) (rc (fun K hK => ?_) AllReadyH.nil)))
    · skip
      go_simp
      refine (putLock14_any _ S i pl.u pl.h _ (HLP.out.step HW.out.1).st).mono ?_
      rintro en w2 ⟨A0, A1, A2, A3, A4, n0, n1, n2, n3, n4, c0, c1, c2, c3, c4, sx, rfl, hsa, hfa, hb⟩
      have hw := HW.out.ca hb (Rs14.new hsa hfa HW.out.2.1)
      refine hK.out _ _ hw.1 (fun hHeld => ?_)
      clear hK K
      (try dsimp only [Act.put]); try simp only [pt1, pt2, pt3]
      exact K_4_9_14_19_20_23.out _ _ _ _ _ _ _ hw
    · skip
      go_simp
      have hw := HW.out.al [g20] [g23]
      refine hK.out _ _ hw.1 (fun hHeld => ?_)
      clear hK K
      (try dsimp only [Act.put]); try simp only [pt1, pt2, pt3]
      exact K_4_9_14_20_21_23.out _ _ _ _ _ _ _ hw
    · skip
      go_simp
      have hw := HW.out.al [g20] [g23]
      refine hK.out _ _ hw.1 (fun hHeld => ?_)
      clear hK K
      (try dsimp only [Act.put]); try simp only [pt1, pt2, pt3]
      exact K_4_9_14_20_22_23.out _ _ _ _ _ _ _ hw
  intro key
  (try dsimp only [Act.put] at key); try simp only [pt1, pt2, pt3] at key
  have K_4_9_14_20_23 := Lib.hid key
  clear key
  refine memo (fun a G => ∀ (wn : World) (g21 g22 : Nat) (v4 v9 v14 : Value), (Wk14 S i pc pt ph pl wc wn [g21, g22] [v4, v9, v14]) → G (((((a.put (some 8) (.pointer (some ⟨g21, 0, none⟩))).put (some 9) (.pointer (some ⟨g22, 0, none⟩))).put (some 29) v4).put (some 34) v9).put (some 39) v14) wn) 7 #[true, true, true, true, true, true, true, true, true, true, true, true, true, true, true, true, true, true, true, false, false, true, true, false, false, false, false, false] ?_ ?_
  · (try dsimp only [Act.put]); try simp only [pt1, pt2, pt3]
    intro wn g21 g22 v4 v9 v14 HW
    have HW := Lib.hid HW
    refine wpAnyH_ready (rs := [19, 20, 23]) (by kernel_rfl) (by simp) (rc (fun K hK => ?_) (rc (fun K hK => ?_) (rc (fun K hK => ?_) AllReadyH.nil)))
    · skip
      go_simp
      refine (putLock14_any _ S i pl.u pl.h _ (HLP.out.step HW.out.1).st).mono ?_
      rintro en w2 ⟨A0, A1, A2, A3, A4, n0, n1, n2, n3, n4, c0, c1, c2, c3, c4, sx, rfl, hsa, hfa, hb⟩
      have hw := HW.out.ca hb (Rs14.new hsa hfa HW.out.2.1)
      refine hK.out _ _ hw.1 (fun hHeld => ?_)
      clear hK K
      (try dsimp only [Act.put]); try simp only [pt1, pt2, pt3]
      exact K_4_9_14_19_21_22.out _ _ _ _ _ _ _ hw
    · skip
      go_simp
      have hw := HW.out.al [] [g21, g22]
      refine hK.out _ _ hw.1 (fun hHeld => ?_)
      clear hK K
      (try dsimp only [Act.put]); try simp only [pt1, pt2, pt3]
      exact K_4_9_14_20_21_22.out _ _ _ _ _ _ _ hw
    · skip
      go_simp
      have hw := HW.out.al [g21, g22] []
      refine hK.out _ _ hw.1 (fun hHeld => ?_)
      clear hK K
      (try dsimp only [Act.put]); try simp only [pt1, pt2, pt3]
      exact K_4_9_14_21_22_23.out _ _ _ _ _ _ _ hw
  intro key
  (try dsimp only [Act.put] at key); try simp only [pt1, pt2, pt3] at key
  have K_4_9_14_21_22 := Lib.hid key
  clear key
  refine memo (fun a G => ∀ (wn : World) (g21 g23 : Nat) (v4 v9 v14 : Value), (Wk14 S i pc pt ph pl wc wn [g21, g23] [v4, v9, v14]) → G (((((a.put (some 8) (.pointer (some ⟨g21, 0, none⟩))).put (some 10) (.pointer (some ⟨g23, 0, none⟩))).put (some 29) v4).put (some 34) v9).put (some 39) v14) wn) 7 #[true, true, true, true, true, true, true, true, true, true, true, true, true, true, true, true, true, true, true, false, false, true, false, true, false, false, false, false] ?_ ?_
  · (try dsimp only [Act.put]); try simp only [pt1, pt2, pt3]
    intro wn g21 g23 v4 v9 v14 HW
    have HW := Lib.hid HW
    refine wpAnyH_ready (rs := [19, 20, 22]) (by kernel_rfl) (by simp) (rc (fun K hK => ?_) (rc (fun K hK => ?_) (rc (fun K hK => ?_) AllReadyH.nil)))
    · skip
      go_simp
      refine (putLock14_any _ S i pl.u pl.h _ (HLP.out.step HW.out.1).st).mono ?_
      rintro en w2 ⟨A0, A1, A2, A3, A4, n0, n1, n2, n3, n4, c0, c1, c2, c3, c4, sx, rfl, hsa, hfa, hb⟩
      have hw := HW.out.ca hb (Rs14.new hsa hfa HW.out.2.1)
      refine hK.out _ _ hw.1 (fun hHeld => ?_)
      clear hK K
      (try dsimp only [Act.put]); try simp only [pt1, pt2, pt3]
      exact K_4_9_14_19_21_23.out _ _ _ _ _ _ _ hw
    · skip
      go_simp
      have hw := HW.out.al [] [g21, g23]
      refine hK.out _ _ hw.1 (fun hHeld => ?_)
      clear hK K
      (try dsimp only [Act.put]); try simp only [pt1, pt2, pt3]
      exact K_4_9_14_20_21_23.out _ _ _ _ _ _ _ hw
    · skip
      go_simp
      have hw := HW.out.al [g21] [g23]
      refine hK.out _ _ hw.1 (fun hHeld => ?_)
      clear hK K
      (try dsimp only [Act.put]); try simp only [pt1, pt2, pt3]
      exact K_4_9_14_21_22_23.out _ _ _ _ _ _ _ hw
  intro key
  (try dsimp only [Act.put] at key); try simp only [pt1, pt2, pt3] at key
  have K_4_9_14_21_23 := Lib.hid key
  clear key
  refine memo (fun a G => ∀ (wn : World) (g22 g23 : Nat) (v4 v9 v14 : Value), (Wk14 S i pc pt ph pl wc wn [g22, g23] [v4, v9, v14]) → G (((((a.put (some 9) (.pointer (some ⟨g22, 0, none⟩))).put (some 10) (.pointer (some ⟨g23, 0, none⟩))).put (some 29) v4).put (some 34) v9).put (some 39) v14) wn) 7 #[true, true, true, true, true, true, true, true, true, true, true, true, true, true, true, true, true, true, true, false, false, false, true, true, false, false, false, false] ?_ ?_
  · (try dsimp only [Act.put]); try simp only [pt1, pt2, pt3]
    intro wn g22 g23 v4 v9 v14 HW
    have HW := Lib.hid HW
    refine wpAnyH_ready (rs := [19, 20, 21]) (by kernel_rfl) (by simp) (rc (fun K hK => ?_) (rc (fun K hK => ?_) (rc (fun K hK => ?_) AllReadyH.nil)))
    · skip
      go_simp
      refine (putLock14_any _ S i pl.u pl.h _ (HLP.out.step HW.out.1).st).mono ?_
      rintro en w2 ⟨A0, A1, A2, A3, A4, n0, n1, n2, n3, n4, c0, c1, c2, c3, c4, sx, rfl, hsa, hfa, hb⟩
      have hw := HW.out.ca hb (Rs14.new hsa hfa HW.out.2.1)
      refine hK.out _ _ hw.1 (fun hHeld => ?_)
      clear hK K
      (try dsimp only [Act.put]); try simp only [pt1, pt2, pt3]
      exact K_4_9_14_19_22_23.out _ _ _ _ _ _ _ hw
    · skip
      go_simp
      have hw := HW.out.al [] [g22, g23]
      refine hK.out _ _ hw.1 (fun hHeld => ?_)
      clear hK K
      (try dsimp only [Act.put]); try simp only [pt1, pt2, pt3]
      exact K_4_9_14_20_22_23.out _ _ _ _ _ _ _ hw
    · skip
      go_simp
      have hw := HW.out.al [] [g22, g23]
      refine hK.out _ _ hw.1 (fun hHeld => ?_)
      clear hK K
      (try dsimp only [Act.put]); try simp only [pt1, pt2, pt3]
      exact K_4_9_14_21_22_23.out _ _ _ _ _ _ _ hw
  intro key
  (try dsimp only [Act.put] at key); try simp only [pt1, pt2, pt3] at key
  have K_4_9_14_22_23 := Lib.hid key
  clear key
  refine memo (fun a G => ∀ (wn : World) (g20 : Nat) (v4 v9 v14 v19 : Value), (Wk14 S i pc pt ph pl wc wn [g20] [v4, v9, v14, v19]) → G (((((a.put (some 7) (.pointer (some ⟨g20, 0, none⟩))).put (some 29) v4).put (some 34) v9).put (some 39) v14).put (some 44) v19) wn) 7 #[true, true, true, true, true, true, true, true, true, true, true, true, true, true, true, true, true, true, true, true, true, false, false, false, false, false, false, false] ?_ ?_
  · (try dsimp only [Act.put]); try simp only [pt1, pt2, pt3]
    intro wn g20 v4 v9 v14 v19 HW
    have HW := Lib.hid HW
    refine wpAnyH_ready (rs := [21, 22, 23]) (by kernel_rfl) (by simp) (rc (fun K hK => ?_) (rc (fun K hK => ?_) (rc (fun K hK => ?_) AllReadyH.nil)))
    · skip
      go_simp
      have hw := HW.out.al [g20] []
      refine hK.out _ _ hw.1 (fun hHeld => ?_)
      clear hK K
      (try dsimp only [Act.put]); try simp only [pt1, pt2, pt3]
      exact K_4_9_14_19_20_21.out _ _ _ _ _ _ _ hw
    · skip
      go_simp
      have hw := HW.out.al [g20] []
      refine hK.out _ _ hw.1 (fun hHeld => ?_)
      clear hK K
      (try dsimp only [Act.put]); try simp only [pt1, pt2, pt3]
      exact K_4_9_14_19_20_22.out _ _ _ _ _ _ _ hw
    · skip
      go_simp
      have hw := HW.out.al [g20] []
      refine hK.out _ _ hw.1 (fun hHeld => ?_)
      clear hK K
      (try dsimp only [Act.put]); try simp only [pt1, pt2, pt3]
      exact K_4_9_14_19_20_23.out _ _ _ _ _ _ _ hw
  intro key
  (try dsimp only [Act.put] at key); try simp only [pt1, pt2, pt3] at key
  have K_4_9_14_19_20 := Lib.hid key
  clear key
  refine memo (fun a G => ∀ (wn : World) (g21 : Nat) (v4 v9 v14 v19 : Value), (Wk14 S i pc pt ph pl wc wn [g21] [v4, v9, v14, v19]) → G (((((a.put (some 8) (.pointer (some ⟨g21, 0, none⟩))).put (some 29) v4).put (some 34) v9).put (some 39) v14).put (some 44) v19) wn) 7 #[true, true, true, true, true, true, true, true, true, true, true, true, true, true, true, true, true, true, true, true, false, true, false, false, false, false, false, false] ?_ ?_
  · (try dsimp only [Act.put]); try simp only [pt1, pt2, pt3]
    intro wn g21 v4 v9 v14 v19 HW
    have HW := Lib.hid HW
    refine wpAnyH_ready (rs := [20, 22, 23]) (by kernel_rfl) (by simp) (rc (fun K hK => ?_) (rc (fun K hK => ?_) (rc (fun K hK => ?_) AllReadyH.nil)))
    · skip
      go_simp
      have hw := HW.out.al [] [g21]
      refine hK.out _ _ hw.1 (fun hHeld => ?_)
      clear hK K
      (try dsimp only [Act.put]); try simp only [pt1, pt2, pt3]
      exact K_4_9_14_19_20_21.out _ _ _ _ _ _ _ hw
    · skip
      go_simp
      have hw := HW.out.al [g21] []
      refine hK.out _ _ hw.1 (fun hHeld => ?_)
      clear hK K
      (try dsimp only [Act.put]); try simp only [pt1, pt2, pt3]
      exact K_4_9_14_19_21_22.out _ _ _ _ _ _ _ hw
    · skip
      go_simp
      have hw := HW.out.al [g21] []
      refine hK.out _ _ hw.1 (fun hHeld => ?_)
      clear hK K
      (try dsimp only [Act.put]); try simp only [pt1, pt2, pt3]
      exact K_4_9_14_19_21_23.out _ _ _ _ _ _ _ hw
  intro key
  (try dsimp only [Act.put] at key); try simp only [pt1, pt2, pt3] at key
  have K_4_9_14_19_21 := Lib.hid key
  clear key
  refine memo (fun a G => ∀ (wn : World) (g22 : Nat) (v4 v9 v14 v19 : Value), (Wk14 S i pc pt ph pl wc wn [g22] [v4, v9, v14, v19]) → G (((((a.put (some 9) (.pointer (some ⟨g22, 0, none⟩))).put (some 29) v4).put (some 34) v9).put (some 39) v14).put (some 44) v19) wn) 7 #[true, true, true, true, true, true, true, true, true, true, true, true, true, true, true, true, true, true, true, true, false, false, true, false, false, false, false, false] ?_ ?_
  · (try dsimp only [Act.put]); try simp only [pt1, pt2, pt3]
    intro wn g22 v4 v9 v14 v19 HW
    have HW := Lib.hid HW
    refine wpAnyH_ready (rs := [20, 21, 23]) (by kernel_rfl) (by simp) (rc (fun K hK => ?_) (rc (fun K hK => ?_) (rc (fun K hK => ?_) AllReadyH.nil)))
    · skip
      go_simp
      have hw := HW.out.al [] [g22]
      refine hK.out _ _ hw.1 (fun hHeld => ?_)
      clear hK K
      (try dsimp only [Act.put]); try simp only [pt1, pt2, pt3]
      exact K_4_9_14_19_20_22.out _ _ _ _ _ _ _ hw
    · skip
      go_simp
      have hw := HW.out.al [] [g22]
      refine hK.out _ _ hw.1 (fun hHeld => ?_)
      clear hK K
      (try dsimp only [Act.put]); try simp only [pt1, pt2, pt3]
      exact K_4_9_14_19_21_22.out _ _ _ _ _ _ _ hw
    · skip
      go_simp
      have hw := HW.out.al [g22] []
      refine hK.out _ _ hw.1 (fun hHeld => ?_)
      clear hK K
      (try dsimp only [Act.put]); try simp only [pt1, pt2, pt3]
      exact K_4_9_14_19_22_23.out _ _ _ _ _ _ _ hw
  intro key
  (try dsimp only [Act.put] at key); try simp only [pt1, pt2, pt3] at key
  have K_4_9_14_19_22 := Lib.hid key
  clear key
  refine memo (fun a G => ∀ (wn : World) (g23 : Nat) (v4 v9 v14 v19 : Value), (Wk14 S i pc pt ph pl wc wn [g23] [v4, v9, v14, v19]) → G (((((a.put (some 10) (.pointer (some ⟨g23, 0, none⟩))).put (some 29) v4).put (some 34) v9).put (some 39) v14).put (some 44) v19) wn) 7 #[true, true, true, true, true, true, true, true, true, true, true, true, true, true, true, true, true, true, true, true, false, false, false, true, false, false, false, false] ?_ ?_
  · (try dsimp only [Act.put]); try simp only [pt1, pt2, pt3]
    intro wn g23 v4 v9 v14 v19 HW
    have HW := Lib.hid HW
    refine wpAnyH_ready (rs := [20, 21, 22]) (by kernel_rfl) (by simp) (rc (fun K hK => ?_) (rc (fun K hK => ?_) (rc (fun K hK => ?_) AllReadyH.nil)))
    · skip
      go_simp
      have hw := HW.out.al [] [g23]
      refine hK.out _ _ hw.1 (fun hHeld => ?_)
      clear hK K
      (try dsimp only [Act.put]); try simp only [pt1, pt2, pt3]
      exact K_4_9_14_19_20_23.out _ _ _ _ _ _ _ hw
    · skip
      go_simp
      have hw := HW.out.al [] [g23]
      refine hK.out _ _ hw.1 (fun hHeld => ?_)
      clear hK K
      (try dsimp only [Act.put]); try simp only [pt1, pt2, pt3]
      exact K_4_9_14_19_21_23.out _ _ _ _ _ _ _ hw
    · skip
      go_simp
      have hw := HW.out.al [] [g23]
      refine hK.out _ _ hw.1 (fun hHeld => ?_)
      clear hK K
      (try dsimp only [Act.put]); try simp only [pt1, pt2, pt3]
      exact K_4_9_14_19_22_23.out _ _ _ _ _ _ _ hw
  intro key
  (try dsimp only [Act.put] at key); try simp only [pt1, pt2, pt3] at key
  have K_4_9_14_19_23 := Lib.hid key
  clear key
  refine memo (fun a G => ∀ (wn : World) (g20 g21 g22 g23 : Nat), (Wk14 S i pc pt ph pl wc wn [g20, g21, g22, g23] []) → G ((((a.put (some 7) (.pointer (some ⟨g20, 0, none⟩))).put (some 8) (.pointer (some ⟨g21, 0, none⟩))).put (some 9) (.pointer (some ⟨g22, 0, none⟩))).put (some 10) (.pointer (some ⟨g23, 0, none⟩))) wn) 8 #[true, true, true, true, false, true, true, true, true, false, true, true, true, true, false, true, true, true, true, false, true, true, true, true, false, false, false, false] ?_ ?_
  · (try dsimp only [Act.put]); try simp only [pt1, pt2, pt3]
    intro wn g20 g21 g22 g23 HW
    have HW := Lib.hid HW
    refine rdy 4 (fun K hK => ?_)
    go_simp
    refine (putCoin14_any _ S i pc _ (HLP.out.step HW.out.1).st).mono ?_
    rintro en w2 ⟨A0, A1, A2, A3, A4, n0, n1, n2, n3, n4, c0, c1, c2, c3, c4, sx, rfl, hsa, hfa, hb⟩
    have hw := HW.out.ca hb (Rs14.new hsa hfa HW.out.2.1)
    refine hK.out _ _ hw.1 (fun hHeld => ?_)
    clear hK K
    (try dsimp only [Act.put]); try simp only [pt1, pt2, pt3]
    exact K_4_20_21_22_23.out _ _ _ _ _ _ hw
  intro key
  (try dsimp only [Act.put] at key); try simp only [pt1, pt2, pt3] at key
  have K_20_21_22_23 := Lib.hid key
  clear key
  refine memo (fun a G => ∀ (wn : World) (g20 g21 g22 : Nat) (v4 : Value), (Wk14 S i pc pt ph pl wc wn [g20, g21, g22] [v4]) → G ((((a.put (some 7) (.pointer (some ⟨g20, 0, none⟩))).put (some 8) (.pointer (some ⟨g21, 0, none⟩))).put (some 9) (.pointer (some ⟨g22, 0, none⟩))).put (some 29) v4) wn) 8 #[true, true, true, true, true, true, true, true, true, false, true, true, true, true, false, true, true, true, true, false, true, true, true, false, false, false, false, false] ?_ ?_
  · (try dsimp only [Act.put]); try simp only [pt1, pt2, pt3]
    intro wn g20 g21 g22 v4 HW
    have HW := Lib.hid HW
    refine wpAnyH_ready (rs := [9, 23]) (by kernel_rfl) (by simp) (rc (fun K hK => ?_) (rc (fun K hK => ?_) AllReadyH.nil))
    · skip
      go_simp
      refine (putTicket14_any _ S i pt.u pt.c pt.a pt.k pt.t pt.o _ (HLP.out.step HW.out.1).st).mono ?_
      rintro en w2 ⟨A0, A1, A2, A3, A4, n0, n1, n2, n3, n4, c0, c1, c2, c3, c4, sx, rfl, hsa, hfa, hb⟩
      have hw := HW.out.ca hb (Rs14.new hsa hfa HW.out.2.1)
      refine hK.out _ _ hw.1 (fun hHeld => ?_)
      clear hK K
      (try dsimp only [Act.put]); try simp only [pt1, pt2, pt3]
      exact K_4_9_20_21_22.out _ _ _ _ _ _ hw
    · skip
      go_simp
      have hw := HW.out.al [g20, g21, g22] []
      refine hK.out _ _ hw.1 (fun hHeld => ?_)
      clear hK K
      (try dsimp only [Act.put]); try simp only [pt1, pt2, pt3]
      exact K_4_20_21_22_23.out _ _ _ _ _ _ hw
  intro key
  (try dsimp only [Act.put] at key); try simp only [pt1, pt2, pt3] at key
  have K_4_20_21_22 := Lib.hid key
  clear key
  refine memo (fun a G => ∀ (wn : World) (g20 g21 g23 : Nat) (v4 : Value), (Wk14 S i pc pt ph pl wc wn [g20, g21, g23] [v4]) → G ((((a.put (some 7) (.pointer (some ⟨g20, 0, none⟩))).put (some 8) (.pointer (some ⟨g21, 0, none⟩))).put (some 10) (.pointer (some ⟨g23, 0, none⟩))).put (some 29) v4) wn) 8 #[true, true, true, true, true, true, true, true, true, false, true, true, true, true, false, true, true, true, true, false, true, true, false, true, false, false, false, false] ?_ ?_
  · (try dsimp only [Act.put]); try simp only [pt1, pt2, pt3]
    intro wn g20 g21 g23 v4 HW
    have HW := Lib.hid HW
    refine wpAnyH_ready (rs := [9, 22]) (by kernel_rfl) (by simp) (rc (fun K hK => ?_) (rc (fun K hK => ?_) AllReadyH.nil))
    · skip
      go_simp
      refine (putTicket14_any _ S i pt.u pt.c pt.a pt.k pt.t pt.o _ (HLP.out.step HW.out.1).st).mono ?_
      rintro en w2 ⟨A0, A1, A2, A3, A4, n0, n1, n2, n3, n4, c0, c1, c2, c3, c4, sx, rfl, hsa, hfa, hb⟩
      have hw := HW.out.ca hb (Rs14.new hsa hfa HW.out.2.1)
      refine hK.out _ _ hw.1 (fun hHeld => ?_)
      clear hK K
      (try dsimp only [Act.put]); try simp only [pt1, pt2, pt3]
      exact K_4_9_20_21_23.out _ _ _ _ _ _ hw
    · skip
      go_simp
      have hw := HW.out.al [g20, g21] [g23]
      refine hK.out _ _ hw.1 (fun hHeld => ?_)
      clear hK K
      (try dsimp only [Act.put]); try simp only [pt1, pt2, pt3]
      exact K_4_20_21_22_23.out _ _ _ _ _ _ hw
  intro key
  (try dsimp only [Act.put] at key); try simp only [pt1, pt2, pt3] at key
  have K_4_20_21_23 := Lib.hid key
  clear key
  refine memo (fun a G => ∀ (wn : World) (g20 g22 g23 : Nat) (v4 : Value), (Wk14 S i pc pt ph pl wc wn [g20, g22, g23] [v4]) → G ((((a.put (some 7) (.pointer (some ⟨g20, 0, none⟩))).put (some 9) (.pointer (some ⟨g22, 0, none⟩))).put (some 10) (.pointer (some ⟨g23, 0, none⟩))).put (some 29) v4) wn) 8 #[true, true, true, true, true, true, true, true, true, false, true, true, true, true, false, true, true, true, true, false, true, false, true, true, false, false, false, false] ?_ ?_
  · (try dsimp only [Act.put]); try simp only [pt1, pt2, pt3]
    intro wn g20 g22 g23 v4 HW
    have HW := Lib.hid HW
    refine wpAnyH_ready (rs := [9, 21]) (by kernel_rfl) (by simp) (rc (fun K hK => ?_) (rc (fun K hK => ?_) AllReadyH.nil))
    · skip
      go_simp
      refine (putTicket14_any _ S i pt.u pt.c pt.a pt.k pt.t pt.o _ (HLP.out.step HW.out.1).st).mono ?_
      rintro en w2 ⟨A0, A1, A2, A3, A4, n0, n1, n2, n3, n4, c0, c1, c2, c3, c4, sx, rfl, hsa, hfa, hb⟩
      have hw := HW.out.ca hb (Rs14.new hsa hfa HW.out.2.1)
      refine hK.out _ _ hw.1 (fun hHeld => ?_)
      clear hK K
      (try dsimp only [Act.put]); try simp only [pt1, pt2, pt3]
      exact K_4_9_20_22_23.out _ _ _ _ _ _ hw
    · skip
      go_simp
      have hw := HW.out.al [g20] [g22, g23]
      refine hK.out _ _ hw.1 (fun hHeld => ?_)
      clear hK K
      (try dsimp only [Act.put]); try simp only [pt1, pt2, pt3]
      exact K_4_20_21_22_23.out _ _ _ _ _ _ hw
  intro key
  (try dsimp only [Act.put] at key); try simp only [pt1, pt2, pt3] at key
  have K_4_20_22_23 := Lib.hid key
  clear key
  refine memo (fun a G => ∀ (wn : World) (g21 g22 g23 : Nat) (v4 : Value), (Wk14 S i pc pt ph pl wc wn [g21, g22, g23] [v4]) → G ((((a.put (some 8) (.pointer (some ⟨g21, 0, none⟩))).put (some 9) (.pointer (some ⟨g22, 0, none⟩))).put (some 10) (.pointer (some ⟨g23, 0, none⟩))).put (some 29) v4) wn) 8 #[true, true, true, true, true, true, true, true, true, false, true, true, true, true, false, true, true, true, true, false, false, true, true, true, false, false, false, false] ?_ ?_
  · (try dsimp only [Act.put]); try simp only [pt1, pt2, pt3]
    intro wn g21 g22 g23 v4 HW
    have HW := Lib.hid HW
    refine wpAnyH_ready (rs := [9, 20]) (by kernel_rfl) (by simp) (rc (fun K hK => ?_) (rc (fun K hK => ?_) AllReadyH.nil))
    · skip
      go_simp
      refine (putTicket14_any _ S i pt.u pt.c pt.a pt.k pt.t pt.o _ (HLP.out.step HW.out.1).st).mono ?_
      rintro en w2 ⟨A0, A1, A2, A3, A4, n0, n1, n2, n3, n4, c0, c1, c2, c3, c4, sx, rfl, hsa, hfa, hb⟩
      have hw := HW.out.ca hb (Rs14.new hsa hfa HW.out.2.1)
      refine hK.out _ _ hw.1 (fun hHeld => ?_)
      clear hK K
      (try dsimp only [Act.put]); try simp only [pt1, pt2, pt3]
      exact K_4_9_21_22_23.out _ _ _ _ _ _ hw
    · skip
      go_simp
      have hw := HW.out.al [] [g21, g22, g23]
      refine hK.out _ _ hw.1 (fun hHeld => ?_)
      clear hK K
      (try dsimp only [Act.put]); try simp only [pt1, pt2, pt3]
      exact K_4_20_21_22_23.out _ _ _ _ _ _ hw
  intro key
  (try dsimp only [Act.put] at key); try simp only [pt1, pt2, pt3] at key
  have K_4_21_22_23 := Lib.hid key
  clear key
  refine memo (fun a G => ∀ (wn : World) (g20 g21 : Nat) (v4 v9 : Value), (Wk14 S i pc pt ph pl wc wn [g20, g21] [v4, v9]) → G ((((a.put (some 7) (.pointer (some ⟨g20, 0, none⟩))).put (some 8) (.pointer (some ⟨g21, 0, none⟩))).put (some 29) v4).put (some 34) v9) wn) 8 #[true, true, true, true, true, true, true, true, true, true, true, true, true, true, false, true, true, true, true, false, true, true, false, false, false, false, false, false] ?_ ?_
  · (try dsimp only [Act.put]); try simp only [pt1, pt2, pt3]
    intro wn g20 g21 v4 v9 HW
    have HW := Lib.hid HW
    refine wpAnyH_ready (rs := [14, 22, 23]) (by kernel_rfl) (by simp) (rc (fun K hK => ?_) (rc (fun K hK => ?_) (rc (fun K hK => ?_) AllReadyH.nil)))
    · skip
      go_simp
      refine (putThread14_any _ S i ph.s ph.f ph.c ph.q ph.u _ (HLP.out.step HW.out.1).st).mono ?_
      rintro en w2 ⟨A0, A1, A2, A3, A4, n0, n1, n2, n3, n4, c0, c1, c2, c3, c4, sx, rfl, hsa, hfa, hb⟩
      have hw := HW.out.ca hb (Rs14.new hsa hfa HW.out.2.1)
      refine hK.out _ _ hw.1 (fun hHeld => ?_)
      clear hK K
      (try dsimp only [Act.put]); try simp only [pt1, pt2, pt3]
      exact K_4_9_14_20_21.out _ _ _ _ _ _ hw
    · skip
      go_simp
      have hw := HW.out.al [g20, g21] []
      refine hK.out _ _ hw.1 (fun hHeld => ?_)
      clear hK K
      (try dsimp only [Act.put]); try simp only [pt1, pt2, pt3]
      exact K_4_9_20_21_22.out _ _ _ _ _ _ hw
    · skip
      go_simp
      have hw := HW.out.al [g20, g21] []
      refine hK.out _ _ hw.1 (fun hHeld => ?_)
      clear hK K
      (try dsimp only [Act.put]); try simp only [pt1, pt2, pt3]
      exact K_4_9_20_21_23.out _ _ _ _ _ _ hw
  intro key
  (try dsimp only [Act.put] at key); try simp only [pt1, pt2, pt3] at key
  have K_4_9_20_21 := Lib.hid key
  clear key
  refine memo (fun a G => ∀ (wn : World) (g20 g22 : Nat) (v4 v9 : Value), (Wk14 S i pc pt ph pl wc wn [g20, g22] [v4, v9]) → G ((((a.put (some 7) (.pointer (some ⟨g20, 0, none⟩))).put (some 9) (.pointer (some ⟨g22, 0, none⟩))).put (some 29) v4).put (some 34) v9) wn) 8 #[true, true, true, true, true, true, true, true, true, true, true, true, true, true, false, true, true, true, true, false, true, false, true, false, false, false, false, false] ?_ ?_
  · (try dsimp only [Act.put]); try simp only [pt1, pt2, pt3]
    intro wn g20 g22 v4 v9 HW
    have HW := Lib.hid HW
    refine wpAnyH_ready (rs := [14, 21, 23]) (by kernel_rfl) (by simp) (rc (fun K hK => ?_) (rc (fun K hK => ?_) (rc (fun K hK => ?_) AllReadyH.nil)))
    · skip
      go_simp
      refine (putThread14_any _ S i ph.s ph.f ph.c ph.q ph.u _ (HLP.out.step HW.out.1).st).mono ?_
      rintro en w2 ⟨A0, A1, A2, A3, A4, n0, n1, n2, n3, n4, c0, c1, c2, c3, c4, sx, rfl, hsa, hfa, hb⟩
      have hw := HW.out.ca hb (Rs14.new hsa hfa HW.out.2.1)
      refine hK.out _ _ hw.1 (fun hHeld => ?_)
      clear hK K
      (try dsimp only [Act.put]); try simp only [pt1, pt2, pt3]
      exact K_4_9_14_20_22.out _ _ _ _ _ _ hw
    · skip
      go_simp
      have hw := HW.out.al [g20] [g22]
      refine hK.out _ _ hw.1 (fun hHeld => ?_)
      clear hK K
      (try dsimp only [Act.put]); try simp only [pt1, pt2, pt3]
      exact K_4_9_20_21_22.out _ _ _ _ _ _ hw
    · skip
      go_simp
      have hw := HW.out.al [g20, g22] []
      refine hK.out _ _ hw.1 (fun hHeld => ?_)
      clear hK K
      (try dsimp only [Act.put]); try simp only [pt1, pt2, pt3]
      exact K_4_9_20_22_23.out _ _ _ _ _ _ hw
  intro key
  (try dsimp only [Act.put] at key); try simp only [pt1, pt2, pt3] at key
  have K_4_9_20_22 := Lib.hid key
  clear key
  refine memo (fun a G => ∀ (wn : World) (g20 g23 : Nat) (v4 v9 : Value), (Wk14 S i pc pt ph pl wc wn [g20, g23] [v4, v9]) → G ((((a.put (some 7) (.pointer (some ⟨g20, 0, none⟩))).put (some 10) (.pointer (some ⟨g23, 0, none⟩))).put (some 29) v4).put (some 34) v9) wn) 8 #[true, true, true, true, true, true, true, true, true, true, true, true, true, true, false, true, true, true, true, false, true, false, false, true, false, false, false, false] ?_ ?_
  · (try dsimp only [Act.put]); try simp only [pt1, pt2, pt3]
    intro wn g20 g23 v4 v9 HW
    have HW := Lib.hid HW
    refine wpAnyH_ready (rs := [14, 21, 22]) (by kernel_rfl) (by simp) (rc (fun K hK => ?_) (rc (fun K hK => ?_) (rc (fun K hK => ?_) AllReadyH.nil)))
    · skip
      go_simp
      refine (putThread14_any _ S i ph.s ph.f ph.c ph.q ph.u _ (HLP.out.step HW.out.1).st).mono ?_
      rintro en w2 ⟨A0, A1, A2, A3, A4, n0, n1, n2, n3, n4, c0, c1, c2, c3, c4, sx, rfl, hsa, hfa, hb⟩
      have hw := HW.out.ca hb (Rs14.new hsa hfa HW.out.2.1)
      refine hK.out _ _ hw.1 (fun hHeld => ?_)
      clear hK K
      (try dsimp only [Act.put]); try simp only [pt1, pt2, pt3]
      exact K_4_9_14_20_23.out _ _ _ _ _ _ hw
    · skip
      go_simp
      have hw := HW.out.al [g20] [g23]
      refine hK.out _ _ hw.1 (fun hHeld => ?_)
      clear hK K
      (try dsimp only [Act.put]); try simp only [pt1, pt2, pt3]
      exact K_4_9_20_21_23.out _ _ _ _ _ _ hw
    · skip
      go_simp
      have hw := HW.out.al [g20] [g23]
      refine hK.out _ _ hw.1 (fun hHeld => ?_)
      clear hK K
      (try dsimp only [Act.put]); try simp only [pt1, pt2, pt3]
      exact K_4_9_20_22_23.out _ _ _ _ _ _ hw
  intro key
  (try dsimp only [Act.put] at key); try simp only [pt1, pt2, pt3] at key
  have K_4_9_20_23 := Lib.hid key
  clear key
  refine memo (fun a G => ∀ (wn : World) (g21 g22 : Nat) (v4 v9 : Value), (Wk14 S i pc pt ph pl wc wn [g21, g22] [v4, v9]) → G ((((a.put (some 8) (.pointer (some ⟨g21, 0, none⟩))).put (some 9) (.pointer (some ⟨g22, 0, none⟩))).put (some 29) v4).put (some 34) v9) wn) 8 #[true, true, true, true, true, true, true, true, true, true, true, true, true, true, false, true, true, true, true, false, false, true, true, false, false, false, false, false] ?_ ?_
  · (try dsimp only [Act.put]); try simp only [pt1, pt2, pt3]
    intro wn g21 g22 v4 v9 HW
    have HW := Lib.hid HW
    refine wpAnyH_ready (rs := [14, 20, 23]) (by kernel_rfl) (by simp) (rc (fun K hK => ?_) (rc (fun K hK => ?_) (rc (fun K hK => ?_) AllReadyH.nil)))
    · skip
      go_simp
      refine (putThread14_any _ S i ph.s ph.f ph.c ph.q ph.u _ (HLP.out.step HW.out.1).st).mono ?_
      rintro en w2 ⟨A0, A1, A2, A3, A4, n0, n1, n2, n3, n4, c0, c1, c2, c3, c4, sx, rfl, hsa, hfa, hb⟩
      have hw := HW.out.ca hb (Rs14.new hsa hfa HW.out.2.1)
      refine hK.out _ _ hw.1 (fun hHeld => ?_)
      clear hK K
      (try dsimp only [Act.put]); try simp only [pt1, pt2, pt3]
      exact K_4_9_14_21_22.out _ _ _ _ _ _ hw
    · skip
      go_simp
      have hw := HW.out.al [] [g21, g22]
      refine hK.out _ _ hw.1 (fun hHeld => ?_)
      clear hK K
      (try dsimp only [Act.put]); try simp only [pt1, pt2, pt3]
      exact K_4_9_20_21_22.out _ _ _ _ _ _ hw
    · skip
      go_simp
      have hw := HW.out.al [g21, g22] []
      refine hK.out _ _ hw.1 (fun hHeld => ?_)
      clear hK K
      (try dsimp only [Act.put]); try simp only [pt1, pt2, pt3]
      exact K_4_9_21_22_23.out _ _ _ _ _ _ hw
  intro key
  (try dsimp only [Act.put] at key); try simp only [pt1, pt2, pt3] at key
  have K_4_9_21_22 := Lib.hid key
  clear key
  refine memo (fun a G => ∀ (wn : World) (g21 g23 : Nat) (v4 v9 : Value), (Wk14 S i pc pt ph pl wc wn [g21, g23] [v4, v9]) → G ((((a.put (some 8) (.pointer (some ⟨g21, 0, none⟩))).put (some 10) (.pointer (some ⟨g23, 0, none⟩))).put (some 29) v4).put (some 34) v9) wn) 8 #[true, true, true, true, true, true, true, true, true, true, true, true, true, true, false, true, true, true, true, false, false, true, false, true, false, false, false, false] ?_ ?_
  · (try dsimp only [Act.put]); try simp only [pt1, pt2, pt3]
    intro wn g21 g23 v4 v9 HW
    have HW := Lib.hid HW
    refine wpAnyH_ready (rs := [14, 20, 22]) (by kernel_rfl) (by simp) (rc (fun K hK => ?_) (rc (fun K hK => ?_) (rc (fun K hK => ?_) AllReadyH.nil)))
    · skip
      go_simp
      refine (putThread14_any _ S i ph.s ph.f ph.c ph.q ph.u _ (HLP.out.step HW.out.1).st).mono ?_
      rintro en w2 ⟨A0, A1, A2, A3, A4, n0, n1, n2, n3, n4, c0, c1, c2, c3, c4, sx, rfl, hsa, hfa, hb⟩
      have hw := HW.out.ca hb (Rs14.new hsa hfa HW.out.2.1)
      refine hK.out _ _ hw.1 (fun hHeld => ?_)
      clear hK K
      (try dsimp only [Act.put]); try simp only [pt1, pt2, pt3]
      exact K_4_9_14_21_23.out _ _ _ _ _ _ hw
    · skip
      go_simp
      have hw := HW.out.al [] [g21, g23]
      refine hK.out _ _ hw.1 (fun hHeld => ?_)
      clear hK K
      (try dsimp only [Act.put]); try simp only [pt1, pt2, pt3]
      exact K_4_9_20_21_23.out _ _ _ _ _ _ hw
    · skip
      go_simp
      have hw := HW.out.al [g21] [g23]
      refine hK.out _ _ hw.1 (fun hHeld => ?_)
      clear hK K
      (try dsimp only [Act.put]); try simp only [pt1, pt2, pt3]
      exact K_4_9_21_22_23.out _ _ _ _ _ _ hw
  intro key
  (try dsimp only [Act.put] at key); try simp only [pt1, pt2, pt3] at key
  have K_4_9_21_23 := Lib.hid key
  clear key
  refine memo (fun a G => ∀ (wn : World) (g22 g23 : Nat) (v4 v9 : Value), (Wk14 S i pc pt ph pl wc wn [g22, g23] [v4, v9]) → G ((((a.put (some 9) (.pointer (some ⟨g22, 0, none⟩))).put (some 10) (.pointer (some ⟨g23, 0, none⟩))).put (some 29) v4).put (some 34) v9) wn) 8 #[true, true, true, true, true, true, true, true, true, true, true, true, true, true, false, true, true, true, true, false, false, false, true, true, false, false, false, false] ?_ ?_
  · (try dsimp only [Act.put]); try simp only [pt1, pt2, pt3]
    intro wn g22 g23 v4 v9 HW
    have HW := Lib.hid HW
    refine wpAnyH_ready (rs := [14, 20, 21]) (by kernel_rfl) (by simp) (rc (fun K hK => ?_) (rc (fun K hK => ?_) (rc (fun K hK => ?_) AllReadyH.nil)))
    · skip
      go_simp
      refine (putThread14_any _ S i ph.s ph.f ph.c ph.q ph.u _ (HLP.out.step HW.out.1).st).mono ?_
      rintro en w2 ⟨A0, A1, A2, A3, A4, n0, n1, n2, n3, n4, c0, c1, c2, c3, c4, sx, rfl, hsa, hfa, hb⟩
      have hw := HW.out.ca hb (Rs14.new hsa hfa HW.out.2.1)
      refine hK.out _ _ hw.1 (fun hHeld => ?_)
      clear hK K
      (try dsimp only [Act.put]); try simp only [pt1, pt2, pt3]
      exact K_4_9_14_22_23.out _ _ _ _ _ _ hw
    · skip
      go_simp
      have hw := HW.out.al [] [g22, g23]
      refine hK.out _ _ hw.1 (fun hHeld => ?_)
      clear hK K
      (try dsimp only [Act.put]); try simp only [pt1, pt2, pt3]
      exact K_4_9_20_22_23.out _ _ _ _ _ _ hw
    · skip
      go_simp
      have hw := HW.out.al [] [g22, g23]
      refine hK.out _ _ hw.1 (fun hHeld => ?_)
      clear hK K
      (try dsimp only [Act.put]); try simp only [pt1, pt2, pt3]
      exact K_4_9_21_22_23.out _ _ _ _ _ _ hw
  intro key
  (try dsimp only [Act.put] at key); try simp only [pt1, pt2, pt3] at key
  have K_4_9_22_23 := Lib.hid key
  clear key
  refine memo (fun a G => ∀ (wn : World) (g20 : Nat) (v4 v9 v14 : Value), (Wk14 S i pc pt ph pl wc wn [g20] [v4, v9, v14]) → G ((((a.put (some 7) (.pointer (some ⟨g20, 0, none⟩))).put (some 29) v4).put (some 34) v9).put (some 39) v14) wn) 8 #[true, true, true, true, true, true, true, true, true, true, true, true, true, true, true, true, true, true, true, false, true, false, false, false, false, false, false, false] ?_ ?_
  · (try dsimp only [Act.put]); try simp only [pt1, pt2, pt3]
    intro wn g20 v4 v9 v14 HW
    have HW := Lib.hid HW
    refine wpAnyH_ready (rs := [19, 21, 22, 23]) (by kernel_rfl) (by simp) (rc (fun K hK => ?_) (rc (fun K hK => ?_) (rc (fun K hK => ?_) (rc (fun K hK => ?_) AllReadyH.nil))))
    · skip
      go_simp
      refine (putLock14_any _ S i pl.u pl.h _ (HLP.out.step HW.out.1).st).mono ?_
      rintro en w2 ⟨A0, A1, A2, A3, A4, n0, n1, n2, n3, n4, c0, c1, c2, c3, c4, sx, rfl, hsa, hfa, hb⟩
      have hw := HW.out.ca hb (Rs14.new hsa hfa HW.out.2.1)
      refine hK.out _ _ hw.1 (fun hHeld => ?_)
      clear hK K
      (try dsimp only [Act.put]); try simp only [pt1, pt2, pt3]
      exact K_4_9_14_19_20.out _ _ _ _ _ _ hw
    · skip
      go_simp
      have hw := HW.out.al [g20] []
      refine hK.out _ _ hw.1 (fun hHeld => ?_)
      clear hK K
      (try dsimp only [Act.put]); try simp only [pt1, pt2, pt3]
      exact K_4_9_14_20_21.out _ _ _ _ _ _ hw
    · skip
      go_simp
      have hw := HW.out.al [g20] []
      refine hK.out _ _ hw.1 (fun hHeld => ?_)
      clear hK K
      (try dsimp only [Act.put]); try simp only [pt1, pt2, pt3]
      exact K_4_9_14_20_22.out _ _ _ _ _ _ hw
    · skip
      go_simp
      have hw := HW.out.al [g20] []
      refine hK.out _ _ hw.1 (fun hHeld => ?_)
      clear hK K
      (try dsimp only [Act.put]); try simp only [pt1, pt2, pt3]
      exact K_4_9_14_20_23.out _ _ _ _ _ _ hw
  intro key
  (try dsimp only [Act.put] at key); try simp only [pt1, pt2, pt3] at key
  have K_4_9_14_20 := Lib.hid key
  clear key
  refine memo (fun a G => ∀ (wn : World) (g21 : Nat) (v4 v9 v14 : Value), (Wk14 S i pc pt ph pl wc wn [g21] [v4, v9, v14]) → G ((((a.put (some 8) (.pointer (some ⟨g21, 0, none⟩))).put (some 29) v4).put (some 34) v9).put (some 39) v14) wn) 8 #[true, true, true, true, true, true, true, true, true, true, true, true, true, true, true, true, true, true, true, false, false, true, false, false, false, false, false, false] ?_ ?_
  · (try dsimp only [Act.put]); try simp only [pt1, pt2, pt3]
    intro wn g21 v4 v9 v14 HW
    have HW := Lib.hid HW
    refine wpAnyH_ready (rs := [19, 20, 22, 23]) (by kernel_rfl) (by simp) (rc (fun K hK => ?_) (rc (fun K hK => ?_) (rc (fun K hK => ?_) (rc (fun K hK => ?_) AllReadyH.nil))))
    · skip
      go_simp
      refine (putLock14_any _ S i pl.u pl.h _ (HLP.out.step HW.out.1).st).mono ?_
      rintro en w2 ⟨A0, A1, A2, A3, A4, n0, n1, n2, n3, n4, c0, c1, c2, c3, c4, sx, rfl, hsa, hfa, hb⟩
      have hw := HW.out.ca hb (Rs14.new hsa hfa HW.out.2.1)
      refine hK.out _ _ hw.1 (fun hHeld => ?_)
      clear hK K
      (try dsimp only [Act.put]); try simp only [pt1, pt2, pt3]
      exact K_4_9_14_19_21.out _ _ _ _ _ _ hw
    · skip
      go_simp
      have hw := HW.out.al [] [g21]
      refine hK.out _ _ hw.1 (fun hHeld => ?_)
      clear hK K
      (try dsimp only [Act.put]); try simp only [pt1, pt2, pt3]
      exact K_4_9_14_20_21.out _ _ _ _ _ _ hw
    · skip
      go_simp
      have hw := HW.out.al [g21] []
      refine hK.out _ _ hw.1 (fun hHeld => ?_)
      clear hK K
      (try dsimp only [Act.put]); try simp only [pt1, pt2, pt3]
      exact K_4_9_14_21_22.out _ _ _ _ _ _ hw
    · skip
      go_simp
      have hw := HW.out.al [g21] []
      refine hK.out _ _ hw.1 (fun hHeld => ?_)
      clear hK K
      (try dsimp only [Act.put]); try simp only [pt1, pt2, pt3]
      exact K_4_9_14_21_23.out _ _ _ _ _ _ hw
  intro key
  (try dsimp only [Act.put] at key); try simp only [pt1, pt2, pt3] at key
  have K_4_9_14_21 := Lib.hid key
  clear key
  refine memo (fun a G => ∀ (wn : World) (g22 : Nat) (v4 v9 v14 : Value), (Wk14 S i pc pt ph pl wc wn [g22] [v4, v9, v14]) → G ((((a.put (some 9) (.pointer (some ⟨g22, 0, none⟩))).put (some 29) v4).put (some 34) v9).put (some 39) v14) wn) 8 #[true, true, true, true, true, true, true, true, true, true, true, true, true, true, true, true, true, true, true, false, false, false, true, false, false, false, false, false] ?_ ?_
  · (try dsimp only [Act.put]); try simp only [pt1, pt2, pt3]
    intro wn g22 v4 v9 v14 HW
    have HW := Lib.hid HW
    refine wpAnyH_ready (rs := [19, 20, 21, 23]) (by kernel_rfl) (by simp) (rc (fun K hK => ?_) (rc (fun K hK => ?_) (rc (fun K hK => ?_) (rc (fun K hK => ?_) AllReadyH.nil))))
    · skip
      go_simp
      refine (putLock14_any _ S i pl.u pl.h _ (HLP.out.step HW.out.1).st).mono ?_
      rintro en w2 ⟨A0, A1, A2, A3, A4, n0, n1, n2, n3, n4, c0, c1, c2, c3, c4, sx, rfl, hsa, hfa, hb⟩
      have hw := HW.out.ca hb (Rs14.new hsa hfa HW.out.2.1)
      refine hK.out _ _ hw.1 (fun hHeld => ?_)
      clear hK K
      (try dsimp only [Act.put]); try simp only [pt1, pt2, pt3]
      exact K_4_9_14_19_22.out _ _ _ _ _ _ hw
    · skip
      go_simp
      have hw := HW.out.al [] [g22]
      refine hK.out _ _ hw.1 (fun hHeld => ?_)
      clear hK K
      (try dsimp only [Act.put]); try simp only [pt1, pt2, pt3]
      exact K_4_9_14_20_22.out _ _ _ _ _ _ hw
    · skip
      go_simp
      have hw := HW.out.al [] [g22]
      refine hK.out _ _ hw.1 (fun hHeld => ?_)
      clear hK K
      (try dsimp only [Act.put]); try simp only [pt1, pt2, pt3]
      exact K_4_9_14_21_22.out _ _ _ _ _ _ hw
    · skip
      go_simp
      have hw := HW.out.al [g22] []
      refine hK.out _ _ hw.1 (fun hHeld => ?_)
      clear hK K
      (try dsimp only [Act.put]); try simp only [pt1, pt2, pt3]
      exact K_4_9_14_22_23.out _ _ _ _ _ _ hw
  intro key
  (try dsimp only [Act.put] at key); try simp only [pt1, pt2, pt3] at key
  have K_4_9_14_22 := Lib.hid key
  clear key
  refine memo (fun a G => ∀ (wn : World) (g23 : Nat) (v4 v9 v14 : Value), (Wk14 S i pc pt ph pl wc wn [g23] [v4, v9, v14]) → G ((((a.put (some 10) (.pointer (some ⟨g23, 0, none⟩))).put (some 29) v4).put (some 34) v9).put (some 39) v14) wn) 8 #[true, true, true, true, true, true, true, true, true, true, true, true, true, true, true, true, true, true, true, false, false, false, false, true, false, false, false, false] ?_ ?_
  · (try dsimp only [Act.put]); try simp only [pt1, pt2, pt3]
    intro wn g23 v4 v9 v14 HW
    have HW := Lib.hid HW
    refine wpAnyH_ready (rs := [19, 20, 21, 22]) (by kernel_rfl) (by simp) (rc (fun K hK => ?_) (rc (fun K hK => ?_) (rc (fun K hK => ?_) (rc (fun K hK => ?_) AllReadyH.nil))))
    · skip
      go_simp
      refine (putLock14_any _ S i pl.u pl.h _ (HLP.out.step HW.out.1).st).mono ?_
      rintro en w2 ⟨A0, A1, A2, A3, A4, n0, n1, n2, n3, n4, c0, c1, c2, c3, c4, sx, rfl, hsa, hfa, hb⟩
      have hw := HW.out.ca hb (Rs14.new hsa hfa HW.out.2.1)
      refine hK.out _ _ hw.1 (fun hHeld => ?_)
      clear hK K
      (try dsimp only [Act.put]); try simp only [pt1, pt2, pt3]
      exact K_4_9_14_19_23.out _ _ _ _ _ _ hw
    · skip
      go_simp
      have hw := HW.out.al [] [g23]
      refine hK.out _ _ hw.1 (fun hHeld => ?_)
      clear hK K
      (try dsimp only [Act.put]); try simp only [pt1, pt2, pt3]
      exact K_4_9_14_20_23.out _ _ _ _ _ _ hw
    · skip
      go_simp
      have hw := HW.out.al [] [g23]
      refine hK.out _ _ hw.1 (fun hHeld => ?_)
      clear hK K
      (try dsimp only [Act.put]); try simp only [pt1, pt2, pt3]
      exact K_4_9_14_21_23.out _ _ _ _ _ _ hw
    · skip
      go_simp
      have hw := HW.out.al [] [g23]
      refine hK.out _ _ hw.1 (fun hHeld => ?_)
      clear hK K
      (try dsimp only [Act.put]); try simp only [pt1, pt2, pt3]
      exact K_4_9_14_22_23.out _ _ _ _ _ _ hw
  intro key
  (try dsimp only [Act.put] at key); try simp only [pt1, pt2, pt3] at key
  have K_4_9_14_23 := Lib.hid key
  clear key
  refine memo (fun a G => ∀ (wn : World) (v4 v9 v14 v19 : Value), (Wk14 S i pc pt ph pl wc wn [] [v4, v9, v14, v19]) → G ((((a.put (some 29) v4).put (some 34) v9).put (some 39) v14).put (some 44) v19) wn) 8 #[true, true, true, true, true, true, true, true, true, true, true, true, true, true, true, true, true, true, true, true, false, false, false, false, false, false, false, false] ?_ ?_
  · (try dsimp only [Act.put]); try simp only [pt1, pt2, pt3]
    intro wn v4 v9 v14 v19 HW
    have HW := Lib.hid HW
    refine wpAnyH_ready (rs := [20, 21, 22, 23]) (by kernel_rfl) (by simp) (rc (fun K hK => ?_) (rc (fun K hK => ?_) (rc (fun K hK => ?_) (rc (fun K hK => ?_) AllReadyH.nil))))
    · skip
      go_simp
      have hw := HW.out.al [] []
      refine hK.out _ _ hw.1 (fun hHeld => ?_)
      clear hK K
      (try dsimp only [Act.put]); try simp only [pt1, pt2, pt3]
      exact K_4_9_14_19_20.out _ _ _ _ _ _ hw
    · skip
      go_simp
      have hw := HW.out.al [] []
      refine hK.out _ _ hw.1 (fun hHeld => ?_)
      clear hK K
      (try dsimp only [Act.put]); try simp only [pt1, pt2, pt3]
      exact K_4_9_14_19_21.out _ _ _ _ _ _ hw
    · skip
      go_simp
      have hw := HW.out.al [] []
      refine hK.out _ _ hw.1 (fun hHeld => ?_)
      clear hK K
      (try dsimp only [Act.put]); try simp only [pt1, pt2, pt3]
      exact K_4_9_14_19_22.out _ _ _ _ _ _ hw
    · skip
      go_simp
      have hw := HW.out.al [] []
      refine hK.out _ _ hw.1 (fun hHeld => ?_)
      clear hK K
      (try dsimp only [Act.put]); try simp only [pt1, pt2, pt3]
      exact K_4_9_14_19_23.out _ _ _ _ _ _ hw
  intro key
  (try dsimp only [Act.put] at key); try simp only [pt1, pt2, pt3] at key
  have K_4_9_14_19 := Lib.hid key
  clear key
  refine memo (fun a G => ∀ (wn : World) (g20 g21 g22 : Nat), (Wk14 S i pc pt ph pl wc wn [g20, g21, g22] []) → G (((a.put (some 7) (.pointer (some ⟨g20, 0, none⟩))).put (some 8) (.pointer (some ⟨g21, 0, none⟩))).put (some 9) (.pointer (some ⟨g22, 0, none⟩))) wn) 9 #[true, true, true, true, false, true, true, true, true, false, true, true, true, true, false, true, true, true, true, false, true, true, true, false, false, false, false, false] ?_ ?_
  · (try dsimp only [Act.put]); try simp only [pt1, pt2, pt3]
    intro wn g20 g21 g22 HW
    have HW := Lib.hid HW
    refine wpAnyH_ready (rs := [4, 23]) (by kernel_rfl) (by simp) (rc (fun K hK => ?_) (rc (fun K hK => ?_) AllReadyH.nil))
    · skip
      go_simp
      refine (putCoin14_any _ S i pc _ (HLP.out.step HW.out.1).st).mono ?_
      rintro en w2 ⟨A0, A1, A2, A3, A4, n0, n1, n2, n3, n4, c0, c1, c2, c3, c4, sx, rfl, hsa, hfa, hb⟩
      have hw := HW.out.ca hb (Rs14.new hsa hfa HW.out.2.1)
      refine hK.out _ _ hw.1 (fun hHeld => ?_)
      clear hK K
      (try dsimp only [Act.put]); try simp only [pt1, pt2, pt3]
      exact K_4_20_21_22.out _ _ _ _ _ hw
    · skip
      go_simp
      have hw := HW.out.al [g20, g21, g22] []
      refine hK.out _ _ hw.1 (fun hHeld => ?_)
      clear hK K
      (try dsimp only [Act.put]); try simp only [pt1, pt2, pt3]
      exact K_20_21_22_23.out _ _ _ _ _ hw
  intro key
  (try dsimp only [Act.put] at key); try simp only [pt1, pt2, pt3] at key
  have K_20_21_22 := Lib.hid key
  clear key
  refine memo (fun a G => ∀ (wn : World) (g20 g21 g23 : Nat), (Wk14 S i pc pt ph pl wc wn [g20, g21, g23] []) → G (((a.put (some 7) (.pointer (some ⟨g20, 0, none⟩))).put (some 8) (.pointer (some ⟨g21, 0, none⟩))).put (some 10) (.pointer (some ⟨g23, 0, none⟩))) wn) 9 #[true, true, true, true, false, true, true, true, true, false, true, true, true, true, false, true, true, true, true, false, true, true, false, true, false, false, false, false] ?_ ?_
  · (try dsimp only [Act.put]); try simp only [pt1, pt2, pt3]
    intro wn g20 g21 g23 HW
    have HW := Lib.hid HW
    refine wpAnyH_ready (rs := [4, 22]) (by kernel_rfl) (by simp) (rc (fun K hK => ?_) (rc (fun K hK => ?_) AllReadyH.nil))
    · skip
      go_simp
      refine (putCoin14_any _ S i pc _ (HLP.out.step HW.out.1).st).mono ?_
      rintro en w2 ⟨A0, A1, A2, A3, A4, n0, n1, n2, n3, n4, c0, c1, c2, c3, c4, sx, rfl, hsa, hfa, hb⟩
      have hw := HW.out.ca hb (Rs14.new hsa hfa HW.out.2.1)
      refine hK.out _ _ hw.1 (fun hHeld => ?_)
      clear hK K
      (try dsimp only [Act.put]); try simp only [pt1, pt2, pt3]
      exact K_4_20_21_23.out _ _ _ _ _ hw
    · skip
      go_simp
      have hw := HW.out.al [g20, g21] [g23]
      refine hK.out _ _ hw.1 (fun hHeld => ?_)
      clear hK K
      (try dsimp only [Act.put]); try simp only [pt1, pt2, pt3]
      exact K_20_21_22_23.out _ _ _ _ _ hw
  intro key
  (try dsimp only [Act.put] at key); try simp only [pt1, pt2, pt3] at key
  have K_20_21_23 := Lib.hid key
  clear key
  refine memo (fun a G => ∀ (wn : World) (g20 g22 g23 : Nat), (Wk14 S i pc pt ph pl wc wn [g20, g22, g23] []) → G (((a.put (some 7) (.pointer (some ⟨g20, 0, none⟩))).put (some 9) (.pointer (some ⟨g22, 0, none⟩))).put (some 10) (.pointer (some ⟨g23, 0, none⟩))) wn) 9 #[true, true, true, true, false, true, true, true, true, false, true, true, true, true, false, true, true, true, true, false, true, false, true, true, false, false, false, false] ?_ ?_
  · (try dsimp only [Act.put]); try simp only [pt1, pt2, pt3]
    intro wn g20 g22 g23 HW
    have HW := Lib.hid HW
    refine wpAnyH_ready (rs := [4, 21]) (by kernel_rfl) (by simp) (rc (fun K hK => ?_) (rc (fun K hK => ?_) AllReadyH.nil))
    · skip
      go_simp
      refine (putCoin14_any _ S i pc _ (HLP.out.step HW.out.1).st).mono ?_
      rintro en w2 ⟨A0, A1, A2, A3, A4, n0, n1, n2, n3, n4, c0, c1, c2, c3, c4, sx, rfl, hsa, hfa, hb⟩
      have hw := HW.out.ca hb (Rs14.new hsa hfa HW.out.2.1)
      refine hK.out _ _ hw.1 (fun hHeld => ?_)
      clear hK K
      (try dsimp only [Act.put]); try simp only [pt1, pt2, pt3]
      exact K_4_20_22_23.out _ _ _ _ _ hw
    · skip
      go_simp
      have hw := HW.out.al [g20] [g22, g23]
      refine hK.out _ _ hw.1 (fun hHeld => ?_)
      clear hK K
      (try dsimp only [Act.put]); try simp only [pt1, pt2, pt3]
      exact K_20_21_22_23.out _ _ _ _ _ hw
  intro key
  (try dsimp only [Act.put] at key); try simp only [pt1, pt2, pt3] at key
  have K_20_22_23 := Lib.hid key
  clear key
  refine memo (fun a G => ∀ (wn : World) (g21 g22 g23 : Nat), (Wk14 S i pc pt ph pl wc wn [g21, g22, g23] []) → G (((a.put (some 8) (.pointer (some ⟨g21, 0, none⟩))).put (some 9) (.pointer (some ⟨g22, 0, none⟩))).put (some 10) (.pointer (some ⟨g23, 0, none⟩))) wn) 9 #[true, true, true, true, false, true, true, true, true, false, true, true, true, true, false, true, true, true, true, false, false, true, true, true, false, false, false, false] ?_ ?_
  · (try dsimp only [Act.put]); try simp only [pt1, pt2, pt3]
    intro wn g21 g22 g23 HW
    have HW := Lib.hid HW
    refine wpAnyH_ready (rs := [4, 20]) (by kernel_rfl) (by simp) (rc (fun K hK => ?_) (rc (fun K hK => ?_) AllReadyH.nil))
    · skip
      go_simp
      refine (putCoin14_any _ S i pc _ (HLP.out.step HW.out.1).st).mono ?_
      rintro en w2 ⟨A0, A1, A2, A3, A4, n0, n1, n2, n3, n4, c0, c1, c2, c3, c4, sx, rfl, hsa, hfa, hb⟩
      have hw := HW.out.ca hb (Rs14.new hsa hfa HW.out.2.1)
      refine hK.out _ _ hw.1 (fun hHeld => ?_)
      clear hK K
      (try dsimp only [Act.put]); try simp only [pt1, pt2, pt3]
      exact K_4_21_22_23.out _ _ _ _ _ hw
    · skip
      go_simp
      have hw := HW.out.al [] [g21, g22, g23]
      refine hK.out _ _ hw.1 (fun hHeld => ?_)
      clear hK K
      (try dsimp only [Act.put]); try simp only [pt1, pt2, pt3]
      exact K_20_21_22_23.out _ _ _ _ _ hw
  intro key
  (try dsimp only [Act.put] at key); try simp only [pt1, pt2, pt3] at key
  have K_21_22_23 := Lib.hid key
  clear key
  refine memo (fun a G => ∀ (wn : World) (g20 g21 : Nat) (v4 : Value), (Wk14 S i pc pt ph pl wc wn [g20, g21] [v4]) → G (((a.put (some 7) (.pointer (some ⟨g20, 0, none⟩))).put (some 8) (.pointer (some ⟨g21, 0, none⟩))).put (some 29) v4) wn) 9 #[true, true, true, true, true, true, true, true, true, false, true, true, true, true, false, true, true, true, true, false, true, true, false, false, false, false, false, false] ?_ ?_
  · (try dsimp only [Act.put]); try simp only [pt1, pt2, pt3]
    intro wn g20 g21 v4 HW
    have HW := Lib.hid HW
    refine wpAnyH_ready (rs := [9, 22, 23]) (by kernel_rfl) (by simp) (rc (fun K hK => ?_) (rc (fun K hK => ?_) (rc (fun K hK => ?_) AllReadyH.nil)))
    · skip
      go_simp
      refine (putTicket14_any _ S i pt.u pt.c pt.a pt.k pt.t pt.o _ (HLP.out.step HW.out.1).st).mono ?_
      rintro en w2 ⟨A0, A1, A2, A3, A4, n0, n1, n2, n3, n4, c0, c1, c2, c3, c4, sx, rfl, hsa, hfa, hb⟩
      have hw := HW.out.ca hb (Rs14.new hsa hfa HW.out.2.1)
      refine hK.out _ _ hw.1 (fun hHeld => ?_)
      clear hK K
      (try dsimp only [Act.put]); try simp only [pt1, pt2, pt3]
      exact K_4_9_20_21.out _ _ _ _ _ hw
    · skip
      go_simp
      have hw := HW.out.al [g20, g21] []
      refine hK.out _ _ hw.1 (fun hHeld => ?_)
      clear hK K
      (try dsimp only [Act.put]); try simp only [pt1, pt2, pt3]
      exact K_4_20_21_22.out _ _ _ _ _ hw
    · skip
      go_simp
      have hw := HW.out.al [g20, g21] []
      refine hK.out _ _ hw.1 (fun hHeld => ?_)
      clear hK K
      (try dsimp only [Act.put]); try simp only [pt1, pt2, pt3]
      exact K_4_20_21_23.out _ _ _ _ _ hw
  intro key
  (try dsimp only [Act.put] at key); try simp only [pt1, pt2, pt3] at key
  have K_4_20_21 := Lib.hid key
  clear key
  refine memo (fun a G => ∀ (wn : World) (g20 g22 : Nat) (v4 : Value), (Wk14 S i pc pt ph pl wc wn [g20, g22] [v4]) → G (((a.put (some 7) (.pointer (some ⟨g20, 0, none⟩))).put (some 9) (.pointer (some ⟨g22, 0, none⟩))).put (some 29) v4) wn) 9 #[true, true, true, true, true, true, true, true, true, false, true, true, true, true, false, true, true, true, true, false, true, false, true, false, false, false, false, false] ?_ ?_
  · (try dsimp only [Act.put]); try simp only [pt1, pt2, pt3]
    intro wn g20 g22 v4 HW
    have HW := Lib.hid HW
    refine wpAnyH_ready (rs := [9, 21, 23]) (by kernel_rfl) (by simp) (rc (fun K hK => ?_) (rc (fun K hK => ?_) (rc (fun K hK => ?_) AllReadyH.nil)))
    · skip
      go_simp
      refine (putTicket14_any _ S i pt.u pt.c pt.a pt.k pt.t pt.o _ (HLP.out.step HW.out.1).st).mono ?_
      rintro en w2 ⟨A0, A1, A2, A3, A4, n0, n1, n2, n3, n4, c0, c1, c2, c3, c4, sx, rfl, hsa, hfa, hb⟩
      have hw := HW.out.ca hb (Rs14.new hsa hfa HW.out.2.1)
      refine hK.out _ _ hw.1 (fun hHeld => ?_)
      clear hK K
      (try dsimp only [Act.put]); try simp only [pt1, pt2, pt3]
      exact K_4_9_20_22.out _ _ _ _ _ hw
    · skip
      go_simp
      have hw := HW.out.al [g20] [g22]
      refine hK.out _ _ hw.1 (fun hHeld => ?_)
      clear hK K
      (try dsimp only [Act.put]); try simp only [pt1, pt2, pt3]
      exact K_4_20_21_22.out _ _ _ _ _ hw
    · skip
      go_simp
      have hw := HW.out.al [g20, g22] []
      refine hK.out _ _ hw.1 (fun hHeld => ?_)
      clear hK K
      (try dsimp only [Act.put]); try simp only [pt1, pt2, pt3]
      exact K_4_20_22_23.out _ _ _ _ _ hw
  intro key
  (try dsimp only [Act.put] at key); try simp only [pt1, pt2, pt3] at key
  have K_4_20_22 := Lib.hid key
  clear key
  refine memo (fun a G => ∀ (wn : World) (g20 g23 : Nat) (v4 : Value), (Wk14 S i pc pt ph pl wc wn [g20, g23] [v4]) → G (((a.put (some 7) (.pointer (some ⟨g20, 0, none⟩))).put (some 10) (.pointer (some ⟨g23, 0, none⟩))).put (some 29) v4) wn) 9 #[true, true, true, true, true, true, true, true, true, false, true, true, true, true, false, true, true, true, true, false, true, false, false, true, false, false, false, false] ?_ ?_
  · (try dsimp only [Act.put]); try simp only [pt1, pt2, pt3]
    intro wn g20 g23 v4 HW
    have HW := Lib.hid HW
    refine wpAnyH_ready (rs := [9, 21, 22]) (by kernel_rfl) (by simp) (rc (fun K hK => ?_) (rc (fun K hK => ?_) (rc (fun K hK => ?_) AllReadyH.nil)))
    · skip
      go_simp
      refine (putTicket14_any _ S i pt.u pt.c pt.a pt.k pt.t pt.o _ (HLP.out.step HW.out.1).st).mono ?_
      rintro en w2 ⟨A0, A1, A2, A3, A4, n0, n1, n2, n3, n4, c0, c1, c2, c3, c4, sx, rfl, hsa, hfa, hb⟩
      have hw := HW.out.ca hb (Rs14.new hsa hfa HW.out.2.1)
      refine hK.out _ _ hw.1 (fun hHeld => ?_)
      clear hK K
      (try dsimp only [Act.put]); try simp only [pt1, pt2, pt3]
      exact K_4_9_20_23.out _ _ _ _ _ hw
    · skip
      go_simp
      have hw := HW.out.al [g20] [g23]
      refine hK.out _ _ hw.1 (fun hHeld => ?_)
      clear hK K
      (try dsimp only [Act.put]); try simp only [pt1, pt2, pt3]
      exact K_4_20_21_23.out _ _ _ _ _ hw
    · skip
      go_simp
      have hw := HW.out.al [g20] [g23]
      refine hK.out _ _ hw.1 (fun hHeld => ?_)
      clear hK K
      (try dsimp only [Act.put]); try simp only [pt1, pt2, pt3]
      exact K_4_20_22_23.out _ _ _ _ _ hw
  intro key
  (try dsimp only [Act.put] at key); try simp only [pt1, pt2, pt3] at key
  have K_4_20_23 := Lib.hid key
  clear key
  refine memo (fun a G => ∀ (wn : World) (g21 g22 : Nat) (v4 : Value), (Wk14 S i pc pt ph pl wc wn [g21, g22] [v4]) → G (((a.put (some 8) (.pointer (some ⟨g21, 0, none⟩))).put (some 9) (.pointer (some ⟨g22, 0, none⟩))).put (some 29) v4) wn) 9 #[true, true, true, true, true, true, true, true, true, false, true, true, true, true, false, true, true, true, true, false, false, true, true, false, false, false, false, false] ?_ ?_
  · (try dsimp only [Act.put]); try simp only [pt1, pt2, pt3]
    intro wn g21 g22 v4 HW
    have HW := Lib.hid HW
    refine wpAnyH_ready (rs := [9, 20, 23]) (by kernel_rfl) (by simp) (rc (fun K hK => ?_) (rc (fun K hK => ?_) (rc (fun K hK => ?_) AllReadyH.nil)))
    · skip
      go_simp
      refine (putTicket14_any _ S i pt.u pt.c pt.a pt.k pt.t pt.o _ (HLP.out.step HW.out.1).st).mono ?_
      rintro en w2 ⟨A0, A1, A2, A3, A4, n0, n1, n2, n3, n4, c0, c1, c2, c3, c4, sx, rfl, hsa, hfa, hb⟩
      have hw := HW.out.ca hb (Rs14.new hsa hfa HW.out.2.1)
      refine hK.out _ _ hw.1 (fun hHeld => ?_)
      clear hK K
      (try dsimp only [Act.put]); try simp only [pt1, pt2, pt3]
      exact K_4_9_21_22.out _ _ _ _ _ hw
    · skip
      go_simp
      have hw := HW.out.al [] [g21, g22]
      refine hK.out _ _ hw.1 (fun hHeld => ?_)
      clear hK K
      (try dsimp only [Act.put]); try simp only [pt1, pt2, pt3]
      exact K_4_20_21_22.out _ _ _ _ _ hw
    · skip
      go_simp
      have hw := HW.out.al [g21, g22] []
      refine hK.out _ _ hw.1 (fun hHeld => ?_)
      clear hK K
      (try dsimp only [Act.put]); try simp only [pt1, pt2, pt3]
      exact K_4_21_22_23.out _ _ _ _ _ hw
  intro key
  (try dsimp only [Act.put] at key); try simp only [pt1, pt2, pt3] at key
  have K_4_21_22 := Lib.hid key
  clear key
  refine memo (fun a G => ∀ (wn : World) (g21 g23 : Nat) (v4 : Value), (Wk14 S i pc pt ph pl wc wn [g21, g23] [v4]) → G (((a.put (some 8) (.pointer (some ⟨g21, 0, none⟩))).put (some 10) (.pointer (some ⟨g23, 0, none⟩))).put (some 29) v4) wn) 9 #[true, true, true, true, true, true, true, true, true, false, true, true, true, true, false, true, true, true, true, false, false, true, false, true, false, false, false, false] ?_ ?_
  · (try dsimp only [Act.put]); try simp only [pt1, pt2, pt3]
    intro wn g21 g23 v4 HW
    have HW := Lib.hid HW
    refine wpAnyH_ready (rs := [9, 20, 22]) (by kernel_rfl) (by simp) (rc (fun K hK => ?_) (rc (fun K hK => ?_) (rc (fun K hK => ?_) AllReadyH.nil)))
    · skip
      go_simp
      refine (putTicket14_any _ S i pt.u pt.c pt.a pt.k pt.t pt.o _ (HLP.out.step HW.out.1).st).mono ?_
      rintro en w2 ⟨A0, A1, A2, A3, A4, n0, n1, n2, n3, n4, c0, c1, c2, c3, c4, sx, rfl, hsa, hfa, hb⟩
      have hw := HW.out.ca hb (Rs14.new hsa hfa HW.out.2.1)
      refine hK.out _ _ hw.1 (fun hHeld => ?_)
      clear hK K
      (try dsimp only [Act.put]); try simp only [pt1, pt2, pt3]
      exact K_4_9_21_23.out _ _ _ _ _ hw
    · skip
      go_simp
      have hw := HW.out.al [] [g21, g23]
      refine hK.out _ _ hw.1 (fun hHeld => ?_)
      clear hK K
      (try dsimp only [Act.put]); try simp only [pt1, pt2, pt3]
      exact K_4_20_21_23.out _ _ _ _ _ hw
    · skip
      go_simp
      have hw := HW.out.al [g21] [g23]
      refine hK.out _ _ hw.1 (fun hHeld => ?_)
      clear hK K
      (try dsimp only [Act.put]); try simp only [pt1, pt2, pt3]
      exact K_4_21_22_23.out _ _ _ _ _ hw
  intro key
  (try dsimp only [Act.put] at key); try simp only [pt1, pt2, pt3] at key
  have K_4_21_23 := Lib.hid key
  clear key
  refine memo (fun a G => ∀ (wn : World) (g22 g23 : Nat) (v4 : Value), (Wk14 S i pc pt ph pl wc wn [g22, g23] [v4]) → G (((a.put (some 9) (.pointer (some ⟨g22, 0, none⟩))).put (some 10) (.pointer (some ⟨g23, 0, none⟩))).put (some 29) v4) wn) 9 #[true, true, true, true, true, true, true, true, true, false, true, true, true, true, false, true, true, true, true, false, false, false, true, true, false, false, false, false] ?_ ?_
  · (try dsimp only [Act.put]); try simp only [pt1, pt2, pt3]
    intro wn g22 g23 v4 HW
    have HW := Lib.hid HW
    refine wpAnyH_ready (rs := [9, 20, 21]) (by kernel_rfl) (by simp) (rc (fun K hK => ?_) (rc (fun K hK => ?_) (rc (fun K hK => ?_) AllReadyH.nil)))
    · skip
      go_simp
      refine (putTicket14_any _ S i pt.u pt.c pt.a pt.k pt.t pt.o _ (HLP.out.step HW.out.1).st).mono ?_
      rintro en w2 ⟨A0, A1, A2, A3, A4, n0, n1, n2, n3, n4, c0, c1, c2, c3, c4, sx, rfl, hsa, hfa, hb⟩
      have hw := HW.out.ca hb (Rs14.new hsa hfa HW.out.2.1)
      refine hK.out _ _ hw.1 (fun hHeld => ?_)
      clear hK K
      (try dsimp only [Act.put]); try simp only [pt1, pt2, pt3]
      exact K_4_9_22_23.out _ _ _ _ _ hw
    · skip
      go_simp
      have hw := HW.out.al [] [g22, g23]
      refine hK.out _ _ hw.1 (fun hHeld => ?_)
      clear hK K
      (try dsimp only [Act.put]); try simp only [pt1, pt2, pt3]
      exact K_4_20_22_23.out _ _ _ _ _ hw
    · skip
      go_simp
      have hw := HW.out.al [] [g22, g23]
      refine hK.out _ _ hw.1 (fun hHeld => ?_)
      clear hK K
      (try dsimp only [Act.put]); try simp only [pt1, pt2, pt3]
      exact K_4_21_22_23.out _ _ _ _ _ hw
  intro key
  (try dsimp only [Act.put] at key); try simp only [pt1, pt2, pt3] at key
  have K_4_22_23 := Lib.hid key
  clear key
  refine memo (fun a G => ∀ (wn : World) (g20 : Nat) (v4 v9 : Value), (Wk14 S i pc pt ph pl wc wn [g20] [v4, v9]) → G (((a.put (some 7) (.pointer (some ⟨g20, 0, none⟩))).put (some 29) v4).put (some 34) v9) wn) 9 #[true, true, true, true, true, true, true, true, true, true, true, true, true, true, false, true, true, true, true, false, true, false, false, false, false, false, false, false] ?_ ?_
  · (try dsimp only [Act.put]); try simp only [pt1, pt2, pt3]
    intro wn g20 v4 v9 HW
    have HW := Lib.hid HW
    refine wpAnyH_ready (rs := [14, 21, 22, 23]) (by kernel_rfl) (by simp) (rc (fun K hK => ?_) (rc (fun K hK => ?_) (rc (fun K hK => ?_) (rc (fun K hK => ?_) AllReadyH.nil))))
    · skip
      go_simp
      refine (putThread14_any _ S i ph.s ph.f ph.c ph.q ph.u _ (HLP.out.step HW.out.1).st).mono ?_
      rintro en w2 ⟨A0, A1, A2, A3, A4, n0, n1, n2, n3, n4, c0, c1, c2, c3, c4, sx, rfl, hsa, hfa, hb⟩
      have hw := HW.out.ca hb (Rs14.new hsa hfa HW.out.2.1)
      refine hK.out _ _ hw.1 (fun hHeld => ?_)
      clear hK K
      (try dsimp only [Act.put]); try simp only [pt1, pt2, pt3]
      exact K_4_9_14_20.out _ _ _ _ _ hw
    · skip
      go_simp
      have hw := HW.out.al [g20] []
      refine hK.out _ _ hw.1 (fun hHeld => ?_)
      clear hK K
      (try dsimp only [Act.put]); try simp only [pt1, pt2, pt3]
      exact K_4_9_20_21.out _ _ _ _ _ hw
    · skip
      go_simp
      have hw := HW.out.al [g20] []
      refine hK.out _ _ hw.1 (fun hHeld => ?_)
      clear hK K
      (try dsimp only [Act.put]); try simp only [pt1, pt2, pt3]
      exact K_4_9_20_22.out _ _ _ _ _ hw
    · skip
      go_simp
      have hw := HW.out.al [g20] []
      refine hK.out _ _ hw.1 (fun hHeld => ?_)
      clear hK K
      (try dsimp only [Act.put]); try simp only [pt1, pt2, pt3]
      exact K_4_9_20_23.out _ _ _ _ _ hw
  intro key
  (try dsimp only [Act.put] at key); try simp only [pt1, pt2, pt3] at key
  have K_4_9_20 := Lib.hid key
  clear key
  refine memo (fun a G => ∀ (wn : World) (g21 : Nat) (v4 v9 : Value), (Wk14 S i pc pt ph pl wc wn [g21] [v4, v9]) → G (((a.put (some 8) (.pointer (some ⟨g21, 0, none⟩))).put (some 29) v4).put (some 34) v9) wn) 9 #[true, true, true, true, true, true, true, true, true, true, true, true, true, true, false, true, true, true, true, false, false, true, false, false, false, false, false, false] ?_ ?_
  · (try dsimp only [Act.put]); try simp only [pt1, pt2, pt3]
    intro wn g21 v4 v9 HW
    have HW := Lib.hid HW
    refine wpAnyH_ready (rs := [14, 20, 22, 23]) (by kernel_rfl) (by simp) (rc (fun K hK => ?_) (rc (fun K hK => ?_) (rc (fun K hK => ?_) (rc (fun K hK => ?_) AllReadyH.nil))))
    · skip
      go_simp
      refine (putThread14_any _ S i ph.s ph.f ph.c ph.q ph.u _ (HLP.out.step HW.out.1).st).mono ?_
      rintro en w2 ⟨A0, A1, A2, A3, A4, n0, n1, n2, n3, n4, c0, c1, c2, c3, c4, sx, rfl, hsa, hfa, hb⟩
      have hw := HW.out.ca hb (Rs14.new hsa hfa HW.out.2.1)
      refine hK.out _ _ hw.1 (fun hHeld => ?_)
      clear hK K
      (try dsimp only [Act.put]); try simp only [pt1, pt2, pt3]
      exact K_4_9_14_21.out _ _ _ _ _ hw
    · skip
      go_simp
      have hw := HW.out.al [] [g21]
      refine hK.out _ _ hw.1 (fun hHeld => ?_)
      clear hK K
      (try dsimp only [Act.put]); try simp only [pt1, pt2, pt3]
      exact K_4_9_20_21.out _ _ _ _ _ hw
    · skip
      go_simp
      have hw := HW.out.al [g21] []
      refine hK.out _ _ hw.1 (fun hHeld => ?_)
      clear hK K
      (try dsimp only [Act.put]); try simp only [pt1, pt2, pt3]
      exact K_4_9_21_22.out _ _ _ _ _ hw
    · skip
      go_simp
      have hw := HW.out.al [g21] []
      refine hK.out _ _ hw.1 (fun hHeld => ?_)
      clear hK K
      (try dsimp only [Act.put]); try simp only [pt1, pt2, pt3]
      exact K_4_9_21_23.out _ _ _ _ _ hw
  intro key
  (try dsimp only [Act.put] at key); try simp only [pt1, pt2, pt3] at key
  have K_4_9_21 := Lib.hid key
  clear key
  refine memo (fun a G => ∀ (wn : World) (g22 : Nat) (v4 v9 : Value), (Wk14 S i pc pt ph pl wc wn [g22] [v4, v9]) → G (((a.put (some 9) (.pointer (some ⟨g22, 0, none⟩))).put (some 29) v4).put (some 34) v9) wn) 9 #[true, true, true, true, true, true, true, true, true, true, true, true, true, true, false, true, true, true, true, false, false, false, true, false, false, false, false, false] ?_ ?_
  · (try dsimp only [Act.put]); try simp only [pt1, pt2, pt3]
    intro wn g22 v4 v9 HW
    have HW := Lib.hid HW
    refine wpAnyH_ready (rs := [14, 20, 21, 23]) (by kernel_rfl) (by simp) (rc (fun K hK => ?_) (rc (fun K hK => ?_) (rc (fun K hK => ?_) (rc (fun K hK => ?_) AllReadyH.nil))))
    · skip
      go_simp
      refine (putThread14_any _ S i ph.s ph.f ph.c ph.q ph.u _ (HLP.out.step HW.out.1).st).mono ?_
      rintro en w2 ⟨A0, A1, A2, A3, A4, n0, n1, n2, n3, n4, c0, c1, c2, c3, c4, sx, rfl, hsa, hfa, hb⟩
      have hw := HW.out.ca hb (Rs14.new hsa hfa HW.out.2.1)
      refine hK.out _ _ hw.1 (fun hHeld => ?_)
      clear hK K
      (try dsimp only [Act.put]); try simp only [pt1, pt2, pt3]
      exact K_4_9_14_22.out _ _ _ _ _ hw
    · skip
      go_simp
      have hw := HW.out.al [] [g22]
      refine hK.out _ _ hw.1 (fun hHeld => ?_)
      clear hK K
      (try dsimp only [Act.put]); try simp only [pt1, pt2, pt3]
      exact K_4_9_20_22.out _ _ _ _ _ hw
    · skip
      go_simp
      have hw := HW.out.al [] [g22]
      refine hK.out _ _ hw.1 (fun hHeld => ?_)
      clear hK K
      (try dsimp only [Act.put]); try simp only [pt1, pt2, pt3]
      exact K_4_9_21_22.out _ _ _ _ _ hw
    · skip
      go_simp
      have hw := HW.out.al [g22] []
      refine hK.out _ _ hw.1 (fun hHeld => ?_)
      clear hK K
      (try dsimp only [Act.put]); try simp only [pt1, pt2, pt3]
      exact K_4_9_22_23.out _ _ _ _ _ hw
  intro key
  (try dsimp only [Act.put] at key); try simp only [pt1, pt2, pt3] at key
  have K_4_9_22 := Lib.hid key
  clear key
  refine memo (fun a G => ∀ (wn : World) (g23 : Nat) (v4 v9 : Value), (Wk14 S i pc pt ph pl wc wn [g23] [v4, v9]) → G (((a.put (some 10) (.pointer (some ⟨g23, 0, none⟩))).put (some 29) v4).put (some 34) v9) wn) 9 #[true, true, true, true, true, true, true, true, true, true, true, true, true, true, false, true, true, true, true, false, false, false, false, true, false, false, false, false] ?_ ?_
  · (try dsimp only [Act.put]); try simp only [pt1, pt2, pt3]
    intro wn g23 v4 v9 HW
    have HW := Lib.hid HW
    refine wpAnyH_ready (rs := [14, 20, 21, 22]) (by kernel_rfl) (by simp) (rc (fun K hK => ?_) (rc (fun K hK => ?_) (rc (fun K hK => ?_) (rc (fun K hK => ?_) AllReadyH.nil))))
    · skip
      go_simp
      refine (putThread14_any _ S i ph.s ph.f ph.c ph.q ph.u _ (HLP.out.step HW.out.1).st).mono ?_
      rintro en w2 ⟨A0, A1, A2, A3, A4, n0, n1, n2, n3, n4, c0, c1, c2, c3, c4, sx, rfl, hsa, hfa, hb⟩
      have hw := HW.out.ca hb (Rs14.new hsa hfa HW.out.2.1)
      refine hK.out _ _ hw.1 (fun hHeld => ?_)
      clear hK K
      (try dsimp only [Act.put]); try simp only [pt1, pt2, pt3]
      exact K_4_9_14_23.out _ _ _ _ _ hw
    · skip
      go_simp
      have hw := HW.out.al [] [g23]
      refine hK.out _ _ hw.1 (fun hHeld => ?_)
      clear hK K
      (try dsimp only [Act.put]); try simp only [pt1, pt2, pt3]
      exact K_4_9_20_23.out _ _ _ _ _ hw
    · skip
      go_simp
      have hw := HW.out.al [] [g23]
      refine hK.out _ _ hw.1 (fun hHeld => ?_)
      clear hK K
      (try dsimp only [Act.put]); try simp only [pt1, pt2, pt3]
      exact K_4_9_21_23.out _ _ _ _ _ hw
    · skip
      go_simp
      have hw := HW.out.al [] [g23]
      refine hK.out _ _ hw.1 (fun hHeld => ?_)
      clear hK K
      (try dsimp only [Act.put]); try simp only [pt1, pt2, pt3]
      exact K_4_9_22_23.out _ _ _ _ _ hw
  intro key
  (try dsimp only [Act.put] at key); try simp only [pt1, pt2, pt3] at key
  have K_4_9_23 := Lib.hid key
  clear key
  refine memo (fun a G => ∀ (wn : World) (v4 v9 v14 : Value), (Wk14 S i pc pt ph pl wc wn [] [v4, v9, v14]) → G (((a.put (some 29) v4).put (some 34) v9).put (some 39) v14) wn) 9 #[true, true, true, true, true, true, true, true, true, true, true, true, true, true, true, true, true, true, true, false, false, false, false, false, false, false, false, false] ?_ ?_
  · (try dsimp only [Act.put]); try simp only [pt1, pt2, pt3]
    intro wn v4 v9 v14 HW
    have HW := Lib.hid HW
    refine wpAnyH_ready (rs := [19, 20, 21, 22, 23]) (by kernel_rfl) (by simp) (rc (fun K hK => ?_) (rc (fun K hK => ?_) (rc (fun K hK => ?_) (rc (fun K hK => ?_) (rc (fun K hK => ?_) AllReadyH.nil)))))
    · skip
      go_simp
      refine (putLock14_any _ S i pl.u pl.h _ (HLP.out.step HW.out.1).st).mono ?_
      rintro en w2 ⟨A0, A1, A2, A3, A4, n0, n1, n2, n3, n4, c0, c1, c2, c3, c4, sx, rfl, hsa, hfa, hb⟩
      have hw := HW.out.ca hb (Rs14.new hsa hfa HW.out.2.1)
      refine hK.out _ _ hw.1 (fun hHeld => ?_)
      clear hK K
      (try dsimp only [Act.put]); try simp only [pt1, pt2, pt3]
      exact K_4_9_14_19.out _ _ _ _ _ hw
    · skip
      go_simp
      have hw := HW.out.al [] []
      refine hK.out _ _ hw.1 (fun hHeld => ?_)
      clear hK K
      (try dsimp only [Act.put]); try simp only [pt1, pt2, pt3]
      exact K_4_9_14_20.out _ _ _ _ _ hw
    · skip
      go_simp
      have hw := HW.out.al [] []
      refine hK.out _ _ hw.1 (fun hHeld => ?_)
      clear hK K
      (try dsimp only [Act.put]); try simp only [pt1, pt2, pt3]
      exact K_4_9_14_21.out _ _ _ _ _ hw
    · skip
      go_simp
      have hw := HW.out.al [] []
      refine hK.out _ _ hw.1 (fun hHeld => ?_)
      clear hK K
      (try dsimp only [Act.put]); try simp only [pt1, pt2, pt3]
      exact K_4_9_14_22.out _ _ _ _ _ hw
    · skip
      go_simp
      have hw := HW.out.al [] []
      refine hK.out _ _ hw.1 (fun hHeld => ?_)
      clear hK K
      (try dsimp only [Act.put]); try simp only [pt1, pt2, pt3]
      exact K_4_9_14_23.out _ _ _ _ _ hw
  intro key
  (try dsimp only [Act.put] at key); try simp only [pt1, pt2, pt3] at key
  have K_4_9_14 := Lib.hid key
  clear key
  refine memo (fun a G => ∀ (wn : World) (g20 g21 : Nat), (Wk14 S i pc pt ph pl wc wn [g20, g21] []) → G ((a.put (some 7) (.pointer (some ⟨g20, 0, none⟩))).put (some 8) (.pointer (some ⟨g21, 0, none⟩))) wn) 10 #[true, true, true, true, false, true, true, true, true, false, true, true, true, true, false, true, true, true, true, false, true, true, false, false, false, false, false, false] ?_ ?_
  · (try dsimp only [Act.put]); try simp only [pt1, pt2, pt3]
    intro wn g20 g21 HW
    have HW := Lib.hid HW
    refine wpAnyH_ready (rs := [4, 22, 23]) (by kernel_rfl) (by simp) (rc (fun K hK => ?_) (rc (fun K hK => ?_) (rc (fun K hK => ?_) AllReadyH.nil)))
    · skip
      go_simp
      refine (putCoin14_any _ S i pc _ (HLP.out.step HW.out.1).st).mono ?_
      rintro en w2 ⟨A0, A1, A2, A3, A4, n0, n1, n2, n3, n4, c0, c1, c2, c3, c4, sx, rfl, hsa, hfa, hb⟩
      have hw := HW.out.ca hb (Rs14.new hsa hfa HW.out.2.1)
      refine hK.out _ _ hw.1 (fun hHeld => ?_)
      clear hK K
      (try dsimp only [Act.put]); try simp only [pt1, pt2, pt3]
      exact K_4_20_21.out _ _ _ _ hw
    · skip
      go_simp
      have hw := HW.out.al [g20, g21] []
      refine hK.out _ _ hw.1 (fun hHeld => ?_)
      clear hK K
      (try dsimp only [Act.put]); try simp only [pt1, pt2, pt3]
      exact K_20_21_22.out _ _ _ _ hw
    · skip
      go_simp
      have hw := HW.out.al [g20, g21] []
      refine hK.out _ _ hw.1 (fun hHeld => ?_)
      clear hK K
      (try dsimp only [Act.put]); try simp only [pt1, pt2, pt3]
      exact K_20_21_23.out _ _ _ _ hw
  intro key
  (try dsimp only [Act.put] at key); try simp only [pt1, pt2, pt3] at key
  have K_20_21 := Lib.hid key
  clear key
  refine memo (fun a G => ∀ (wn : World) (g20 g22 : Nat), (Wk14 S i pc pt ph pl wc wn [g20, g22] []) → G ((a.put (some 7) (.pointer (some ⟨g20, 0, none⟩))).put (some 9) (.pointer (some ⟨g22, 0, none⟩))) wn) 10 #[true, true, true, true, false, true, true, true, true, false, true, true, true, true, false, true, true, true, true, false, true, false, true, false, false, false, false, false] ?_ ?_
  · (try dsimp only [Act.put]); try simp only [pt1, pt2, pt3]
    intro wn g20 g22 HW
    have HW := Lib.hid HW
    refine wpAnyH_ready (rs := [4, 21, 23]) (by kernel_rfl) (by simp) (rc (fun K hK => ?_) (rc (fun K hK => ?_) (rc (fun K hK => ?_) AllReadyH.nil)))
    · skip
      go_simp
      refine (putCoin14_any _ S i pc _ (HLP.out.step HW.out.1).st).mono ?_
      rintro en w2 ⟨A0, A1, A2, A3, A4, n0, n1, n2, n3, n4, c0, c1, c2, c3, c4, sx, rfl, hsa, hfa, hb⟩
      have hw := HW.out.ca hb (Rs14.new hsa hfa HW.out.2.1)
      refine hK.out _ _ hw.1 (fun hHeld => ?_)
      clear hK K
      (try dsimp only [Act.put]); try simp only [pt1, pt2, pt3]
      exact K_4_20_22.out _ _ _ _ hw
    · skip
      go_simp
      have hw := HW.out.al [g20] [g22]
      refine hK.out _ _ hw.1 (fun hHeld => ?_)
      clear hK K
      (try dsimp only [Act.put]); try simp only [pt1, pt2, pt3]
      exact K_20_21_22.out _ _ _ _ hw
    · skip
      go_simp
      have hw := HW.out.al [g20, g22] []
      refine hK.out _ _ hw.1 (fun hHeld => ?_)
      clear hK K
      (try dsimp only [Act.put]); try simp only [pt1, pt2, pt3]
      exact K_20_22_23.out _ _ _ _ hw
  intro key
  (try dsimp only [Act.put] at key); try simp only [pt1, pt2, pt3] at key
  have K_20_22 := Lib.hid key
  clear key
  refine memo (fun a G => ∀ (wn : World) (g20 g23 : Nat), (Wk14 S i pc pt ph pl wc wn [g20, g23] []) → G ((a.put (some 7) (.pointer (some ⟨g20, 0, none⟩))).put (some 10) (.pointer (some ⟨g23, 0, none⟩))) wn) 10 #[true, true, true, true, false, true, true, true, true, false, true, true, true, true, false, true, true, true, true, false, true, false, false, true, false, false, false, false] ?_ ?_
  · (try dsimp only [Act.put]); try simp only [pt1, pt2, pt3]
    intro wn g20 g23 HW
    have HW := Lib.hid HW
    refine wpAnyH_ready (rs := [4, 21, 22]) (by kernel_rfl) (by simp) (rc (fun K hK => ?_) (rc (fun K hK => ?_) (rc (fun K hK => ?_) AllReadyH.nil)))
    · skip
      go_simp
      refine (putCoin14_any _ S i pc _ (HLP.out.step HW.out.1).st).mono ?_
      rintro en w2 ⟨A0, A1, A2, A3, A4, n0, n1, n2, n3, n4, c0, c1, c2, c3, c4, sx, rfl, hsa, hfa, hb⟩
      have hw := HW.out.ca hb (Rs14.new hsa hfa HW.out.2.1)
      refine hK.out _ _ hw.1 (fun hHeld => ?_)
      clear hK K
      (try dsimp only [Act.put]); try simp only [pt1, pt2, pt3]
      exact K_4_20_23.out _ _ _ _ hw
    · skip
      go_simp
      have hw := HW.out.al [g20] [g23]
      refine hK.out _ _ hw.1 (fun hHeld => ?_)
      clear hK K
      (try dsimp only [Act.put]); try simp only [pt1, pt2, pt3]
      exact K_20_21_23.out _ _ _ _ hw
    · skip
      go_simp
      have hw := HW.out.al [g20] [g23]
      refine hK.out _ _ hw.1 (fun hHeld => ?_)
      clear hK K
      (try dsimp only [Act.put]); try simp only [pt1, pt2, pt3]
      exact K_20_22_23.out _ _ _ _ hw
  intro key
  (try dsimp only [Act.put] at key); try simp only [pt1, pt2, pt3] at key
  have K_20_23 := Lib.hid key
  clear key
  refine memo (fun a G => ∀ (wn : World) (g21 g22 : Nat), (Wk14 S i pc pt ph pl wc wn [g21, g22] []) → G ((a.put (some 8) (.pointer (some ⟨g21, 0, none⟩))).put (some 9) (.pointer (some ⟨g22, 0, none⟩))) wn) 10 #[true, true, true, true, false, true, true, true, true, false, true, true, true, true, false, true, true, true, true, false, false, true, true, false, false, false, false, false] ?_ ?_
  · (try dsimp only [Act.put]); try simp only [pt1, pt2, pt3]
    intro wn g21 g22 HW
    have HW := Lib.hid HW
    refine wpAnyH_ready (rs := [4, 20, 23]) (by kernel_rfl) (by simp) (rc (fun K hK => ?_) (rc (fun K hK => ?_) (rc (fun K hK => ?_) AllReadyH.nil)))
    · skip
      go_simp
      refine (putCoin14_any _ S i pc _ (HLP.out.step HW.out.1).st).mono ?_
      rintro en w2 ⟨A0, A1, A2, A3, A4, n0, n1, n2, n3, n4, c0, c1, c2, c3, c4, sx, rfl, hsa, hfa, hb⟩
      have hw := HW.out.ca hb (Rs14.new hsa hfa HW.out.2.1)
      refine hK.out _ _ hw.1 (fun hHeld => ?_)
      clear hK K
      (try dsimp only [Act.put]); try simp only [pt1, pt2, pt3]
      exact K_4_21_22.out _ _ _ _ hw
    · skip
      go_simp
      have hw := HW.out.al [] [g21, g22]
      refine hK.out _ _ hw.1 (fun hHeld => ?_)
      clear hK K
      (try dsimp only [Act.put]); try simp only [pt1, pt2, pt3]
      exact K_20_21_22.out _ _ _ _ hw
    · skip
      go_simp
      have hw := HW.out.al [g21, g22] []
      refine hK.out _ _ hw.1 (fun hHeld => ?_)
      clear hK K
      (try dsimp only [Act.put]); try simp only [pt1, pt2, pt3]
      exact K_21_22_23.out _ _ _ _ hw
  intro key
  (try dsimp only [Act.put] at key); try simp only [pt1, pt2, pt3] at key
  have K_21_22 := Lib.hid key
  clear key
  refine memo (fun a G => ∀ (wn : World) (g21 g23 : Nat), (Wk14 S i pc pt ph pl wc wn [g21, g23] []) → G ((a.put (some 8) (.pointer (some ⟨g21, 0, none⟩))).put (some 10) (.pointer (some ⟨g23, 0, none⟩))) wn) 10 #[true, true, true, true, false, true, true, true, true, false, true, true, true, true, false, true, true, true, true, false, false, true, false, true, false, false, false, false] ?_ ?_
  · (try dsimp only [Act.put]); try simp only [pt1, pt2, pt3]
    intro wn g21 g23 HW
    have HW := Lib.hid HW
    refine wpAnyH_ready (rs := [4, 20, 22]) (by kernel_rfl) (by simp) (rc (fun K hK => ?_) (rc (fun K hK => ?_) (rc (fun K hK => ?_) AllReadyH.nil)))
    · skip
      go_simp
      refine (putCoin14_any _ S i pc _ (HLP.out.step HW.out.1).st).mono ?_
      rintro en w2 ⟨A0, A1, A2, A3, A4, n0, n1, n2, n3, n4, c0, c1, c2, c3, c4, sx, rfl, hsa, hfa, hb⟩
      have hw := HW.out.ca hb (Rs14.new hsa hfa HW.out.2.1)
      refine hK.out _ _ hw.1 (fun hHeld => ?_)
      clear hK K
      (try dsimp only [Act.put]); try simp only [pt1, pt2, pt3]
      exact K_4_21_23.out _ _ _ _ hw
    · skip
      go_simp
      have hw := HW.out.al [] [g21, g23]
      refine hK.out _ _ hw.1 (fun hHeld => ?_)
      clear hK K
      (try dsimp only [Act.put]); try simp only [pt1, pt2, pt3]
      exact K_20_21_23.out _ _ _ _ hw
    · skip
      go_simp
      have hw := HW.out.al [g21] [g23]
      refine hK.out _ _ hw.1 (fun hHeld => ?_)
      clear hK K
      (try dsimp only [Act.put]); try simp only [pt1, pt2, pt3]
      exact K_21_22_23.out _ _ _ _ hw
  intro key
  (try dsimp only [Act.put] at key); try simp only [pt1, pt2, pt3] at key
  have K_21_23 := Lib.hid key
  clear key
  refine memo (fun a G => ∀ (wn : World) (g22 g23 : Nat), (Wk14 S i pc pt ph pl wc wn [g22, g23] []) → G ((a.put (some 9) (.pointer (some ⟨g22, 0, none⟩))).put (some 10) (.pointer (some ⟨g23, 0, none⟩))) wn) 10 #[true, true, true, true, false, true, true, true, true, false, true, true, true, true, false, true, true, true, true, false, false, false, true, true, false, false, false, false] ?_ ?_
  · (try dsimp only [Act.put]); try simp only [pt1, pt2, pt3]
    intro wn g22 g23 HW
    have HW := Lib.hid HW
    refine wpAnyH_ready (rs := [4, 20, 21]) (by kernel_rfl) (by simp) (rc (fun K hK => ?_) (rc (fun K hK => ?_) (rc (fun K hK => ?_) AllReadyH.nil)))
    · skip
      go_simp
      refine (putCoin14_any _ S i pc _ (HLP.out.step HW.out.1).st).mono ?_
      rintro en w2 ⟨A0, A1, A2, A3, A4, n0, n1, n2, n3, n4, c0, c1, c2, c3, c4, sx, rfl, hsa, hfa, hb⟩
      have hw := HW.out.ca hb (Rs14.new hsa hfa HW.out.2.1)
      refine hK.out _ _ hw.1 (fun hHeld => ?_)
      clear hK K
      (try dsimp only [Act.put]); try simp only [pt1, pt2, pt3]
      exact K_4_22_23.out _ _ _ _ hw
    · skip
      go_simp
      have hw := HW.out.al [] [g22, g23]
      refine hK.out _ _ hw.1 (fun hHeld => ?_)
      clear hK K
      (try dsimp only [Act.put]); try simp only [pt1, pt2, pt3]
      exact K_20_22_23.out _ _ _ _ hw
    · skip
      go_simp
      have hw := HW.out.al [] [g22, g23]
      refine hK.out _ _ hw.1 (fun hHeld => ?_)
      clear hK K
      (try dsimp only [Act.put]); try simp only [pt1, pt2, pt3]
      exact K_21_22_23.out _ _ _ _ hw
  intro key
  (try dsimp only [Act.put] at key); try simp only [pt1, pt2, pt3] at key
  have K_22_23 := Lib.hid key
  clear key
  refine memo (fun a G => ∀ (wn : World) (g20 : Nat) (v4 : Value), (Wk14 S i pc pt ph pl wc wn [g20] [v4]) → G ((a.put (some 7) (.pointer (some ⟨g20, 0, none⟩))).put (some 29) v4) wn) 10 #[true, true, true, true, true, true, true, true, true, false, true, true, true, true, false, true, true, true, true, false, true, false, false, false, false, false, false, false] ?_ ?_
  · (try dsimp only [Act.put]); try simp only [pt1, pt2, pt3]
    intro wn g20 v4 HW
    have HW := Lib.hid HW
    refine wpAnyH_ready (rs := [9, 21, 22, 23]) (by kernel_rfl) (by simp) (rc (fun K hK => ?_) (rc (fun K hK => ?_) (rc (fun K hK => ?_) (rc (fun K hK => ?_) AllReadyH.nil))))
    · skip
      go_simp
      refine (putTicket14_any _ S i pt.u pt.c pt.a pt.k pt.t pt.o _ (HLP.out.step HW.out.1).st).mono ?_
      rintro en w2 ⟨A0, A1, A2, A3, A4, n0, n1, n2, n3, n4, c0, c1, c2, c3, c4, sx, rfl, hsa, hfa, hb⟩
      have hw := HW.out.ca hb (Rs14.new hsa hfa HW.out.2.1)
      refine hK.out _ _ hw.1 (fun hHeld => ?_)
      clear hK K
      (try dsimp only [Act.put]); try simp only [pt1, pt2, pt3]
      exact K_4_9_20.out _ _ _ _ hw
    · skip
      go_simp
      have hw := HW.out.al [g20] []
      refine hK.out _ _ hw.1 (fun hHeld => ?_)
      clear hK K
      (try dsimp only [Act.put]); try simp only [pt1, pt2, pt3]
      exact K_4_20_21.out _ _ _ _ hw
    · skip
      go_simp
      have hw := HW.out.al [g20] []
      refine hK.out _ _ hw.1 (fun hHeld => ?_)
      clear hK K
      (try dsimp only [Act.put]); try simp only [pt1, pt2, pt3]
      exact K_4_20_22.out _ _ _ _ hw
    · skip
      go_simp
      have hw := HW.out.al [g20] []
      refine hK.out _ _ hw.1 (fun hHeld => ?_)
      clear hK K
      (try dsimp only [Act.put]); try simp only [pt1, pt2, pt3]
      exact K_4_20_23.out _ _ _ _ hw
  intro key
  (try dsimp only [Act.put] at key); try simp only [pt1, pt2, pt3] at key
  have K_4_20 := Lib.hid key
  clear key
  refine memo (fun a G => ∀ (wn : World) (g21 : Nat) (v4 : Value), (Wk14 S i pc pt ph pl wc wn [g21] [v4]) → G ((a.put (some 8) (.pointer (some ⟨g21, 0, none⟩))).put (some 29) v4) wn) 10 #[true, true, true, true, true, true, true, true, true, false, true, true, true, true, false, true, true, true, true, false, false, true, false, false, false, false, false, false] ?_ ?_
  · (try dsimp only [Act.put]); try simp only [pt1, pt2, pt3]
    intro wn g21 v4 HW
    have HW := Lib.hid HW
    refine wpAnyH_ready (rs := [9, 20, 22, 23]) (by kernel_rfl) (by simp) (rc (fun K hK => ?_) (rc (fun K hK => ?_) (rc (fun K hK => ?_) (rc (fun K hK => ?_) AllReadyH.nil))))
    · skip
      go_simp
      refine (putTicket14_any _ S i pt.u pt.c pt.a pt.k pt.t pt.o _ (HLP.out.step HW.out.1).st).mono ?_
      rintro en w2 ⟨A0, A1, A2, A3, A4, n0, n1, n2, n3, n4, c0, c1, c2, c3, c4, sx, rfl, hsa, hfa, hb⟩
      have hw := HW.out.ca hb (Rs14.new hsa hfa HW.out.2.1)
      refine hK.out _ _ hw.1 (fun hHeld => ?_)
      clear hK K
      (try dsimp only [Act.put]); try simp only [pt1, pt2, pt3]
      exact K_4_9_21.out _ _ _ _ hw
    · skip
      go_simp
      have hw := HW.out.al [] [g21]
      refine hK.out _ _ hw.1 (fun hHeld => ?_)
      clear hK K
      (try dsimp only [Act.put]); try simp only [pt1, pt2, pt3]
      exact K_4_20_21.out _ _ _ _ hw
    · skip
      go_simp
      have hw := HW.out.al [g21] []
      refine hK.out _ _ hw.1 (fun hHeld => ?_)
      clear hK K
      (try dsimp only [Act.put]); try simp only [pt1, pt2, pt3]
      exact K_4_21_22.out _ _ _ _ hw
    · skip
      go_simp
      have hw := HW.out.al [g21] []
      refine hK.out _ _ hw.1 (fun hHeld => ?_)
      clear hK K
      (try dsimp only [Act.put]); try simp only [pt1, pt2, pt3]
      exact K_4_21_23.out _ _ _ _ hw
  intro key
  (try dsimp only [Act.put] at key); try simp only [pt1, pt2, pt3] at key
  have K_4_21 := Lib.hid key
  clear key
  refine memo (fun a G => ∀ (wn : World) (g22 : Nat) (v4 : Value), (Wk14 S i pc pt ph pl wc wn [g22] [v4]) → G ((a.put (some 9) (.pointer (some ⟨g22, 0, none⟩))).put (some 29) v4) wn) 10 #[true, true, true, true, true, true, true, true, true, false, true, true, true, true, false, true, true, true, true, false, false, false, true, false, false, false, false, false] ?_ ?_
  · (try dsimp only [Act.put]); try simp only [pt1, pt2, pt3]
    intro wn g22 v4 HW
    have HW := Lib.hid HW
    refine wpAnyH_ready (rs := [9, 20, 21, 23]) (by kernel_rfl) (by simp) (rc (fun K hK => ?_) (rc (fun K hK => ?_) (rc (fun K hK => ?_) (rc (fun K hK => ?_) AllReadyH.nil))))
    · skip
      go_simp
      refine (putTicket14_any _ S i pt.u pt.c pt.a pt.k pt.t pt.o _ (HLP.out.step HW.out.1).st).mono ?_
      rintro en w2 ⟨A0, A1, A2, A3, A4, n0, n1, n2, n3, n4, c0, c1, c2, c3, c4, sx, rfl, hsa, hfa, hb⟩
      have hw := HW.out.ca hb (Rs14.new hsa hfa HW.out.2.1)
      refine hK.out _ _ hw.1 (fun hHeld => ?_)
      clear hK K
      (try dsimp only [Act.put]); try simp only [pt1, pt2, pt3]
      exact K_4_9_22.out _ _ _ _ hw
    · skip
      go_simp
      have hw := HW.out.al [] [g22]
      refine hK.out _ _ hw.1 (fun hHeld => ?_)
      clear hK K
      (try dsimp only [Act.put]); try simp only [pt1, pt2, pt3]
      exact K_4_20_22.out _ _ _ _ hw
    · skip
      go_simp
      have hw := HW.out.al [] [g22]
      refine hK.out _ _ hw.1 (fun hHeld => ?_)
      clear hK K
      (try dsimp only [Act.put]); try simp only [pt1, pt2, pt3]
      exact K_4_21_22.out _ _ _ _ hw
    · skip
      go_simp
      have hw := HW.out.al [g22] []
      refine hK.out _ _ hw.1 (fun hHeld => ?_)
      clear hK K
      (try dsimp only [Act.put]); try simp only [pt1, pt2, pt3]
      exact K_4_22_23.out _ _ _ _ hw
  intro key
  (try dsimp only [Act.put] at key); try simp only [pt1, pt2, pt3] at key
  have K_4_22 := Lib.hid key
  clear key
  refine memo (fun a G => ∀ (wn : World) (g23 : Nat) (v4 : Value), (Wk14 S i pc pt ph pl wc wn [g23] [v4]) → G ((a.put (some 10) (.pointer (some ⟨g23, 0, none⟩))).put (some 29) v4) wn) 10 #[true, true, true, true, true, true, true, true, true, false, true, true, true, true, false, true, true, true, true, false, false, false, false, true, false, false, false, false] ?_ ?_
  · (try dsimp only [Act.put]); try simp only [pt1, pt2, pt3]
    intro wn g23 v4 HW
    have HW := Lib.hid HW
    refine wpAnyH_ready (rs := [9, 20, 21, 22]) (by kernel_rfl) (by simp) (rc (fun K hK => ?_) (rc (fun K hK => ?_) (rc (fun K hK => ?_) (rc (fun K hK => ?_) AllReadyH.nil))))
    · skip
      go_simp
      refine (putTicket14_any _ S i pt.u pt.c pt.a pt.k pt.t pt.o _ (HLP.out.step HW.out.1).st).mono ?_
      rintro en w2 ⟨A0, A1, A2, A3, A4, n0, n1, n2, n3, n4, c0, c1, c2, c3, c4, sx, rfl, hsa, hfa, hb⟩
      have hw := HW.out.ca hb (Rs14.new hsa hfa HW.out.2.1)
      refine hK.out _ _ hw.1 (fun hHeld => ?_)
      clear hK K
      (try dsimp only [Act.put]); try simp only [pt1, pt2, pt3]
      exact K_4_9_23.out _ _ _ _ hw
    · skip
      go_simp
      have hw := HW.out.al [] [g23]
      refine hK.out _ _ hw.1 (fun hHeld => ?_)
      clear hK K
      (try dsimp only [Act.put]); try simp only [pt1, pt2, pt3]
      exact K_4_20_23.out _ _ _ _ hw
    · skip
      go_simp
      have hw := HW.out.al [] [g23]
      refine hK.out _ _ hw.1 (fun hHeld => ?_)
      clear hK K
      (try dsimp only [Act.put]); try simp only [pt1, pt2, pt3]
      exact K_4_21_23.out _ _ _ _ hw
    · skip
      go_simp
      have hw := HW.out.al [] [g23]
      refine hK.out _ _ hw.1 (fun hHeld => ?_)
      clear hK K
      (try dsimp only [Act.put]); try simp only [pt1, pt2, pt3]
      exact K_4_22_23.out _ _ _ _ hw
  intro key
  (try dsimp only [Act.put] at key); try simp only [pt1, pt2, pt3] at key
  have K_4_23 := Lib.hid key
  clear key
  refine memo (fun a G => ∀ (wn : World) (v4 v9 : Value), (Wk14 S i pc pt ph pl wc wn [] [v4, v9]) → G ((a.put (some 29) v4).put (some 34) v9) wn) 10 #[true, true, true, true, true, true, true, true, true, true, true, true, true, true, false, true, true, true, true, false, false, false, false, false, false, false, false, false] ?_ ?_
  · (try dsimp only [Act.put]); try simp only [pt1, pt2, pt3]
    intro wn v4 v9 HW
    have HW := Lib.hid HW
    refine wpAnyH_ready (rs := [14, 20, 21, 22, 23]) (by kernel_rfl) (by simp) (rc (fun K hK => ?_) (rc (fun K hK => ?_) (rc (fun K hK => ?_) (rc (fun K hK => ?_) (rc (fun K hK => ?_) AllReadyH.nil)))))
    · skip
      go_simp
      refine (putThread14_any _ S i ph.s ph.f ph.c ph.q ph.u _ (HLP.out.step HW.out.1).st).mono ?_
      rintro en w2 ⟨A0, A1, A2, A3, A4, n0, n1, n2, n3, n4, c0, c1, c2, c3, c4, sx, rfl, hsa, hfa, hb⟩
      have hw := HW.out.ca hb (Rs14.new hsa hfa HW.out.2.1)
      refine hK.out _ _ hw.1 (fun hHeld => ?_)
      clear hK K
      (try dsimp only [Act.put]); try simp only [pt1, pt2, pt3]
      exact K_4_9_14.out _ _ _ _ hw
    · skip
      go_simp
      have hw := HW.out.al [] []
      refine hK.out _ _ hw.1 (fun hHeld => ?_)
      clear hK K
      (try dsimp only [Act.put]); try simp only [pt1, pt2, pt3]
      exact K_4_9_20.out _ _ _ _ hw
    · skip
      go_simp
      have hw := HW.out.al [] []
      refine hK.out _ _ hw.1 (fun hHeld => ?_)
      clear hK K
      (try dsimp only [Act.put]); try simp only [pt1, pt2, pt3]
      exact K_4_9_21.out _ _ _ _ hw
    · skip
      go_simp
      have hw := HW.out.al [] []
      refine hK.out _ _ hw.1 (fun hHeld => ?_)
      clear hK K
      (try dsimp only [Act.put]); try simp only [pt1, pt2, pt3]
      exact K_4_9_22.out _ _ _ _ hw
    · skip
      go_simp
      have hw := HW.out.al [] []
      refine hK.out _ _ hw.1 (fun hHeld => ?_)
      clear hK K
      (try dsimp only [Act.put]); try simp only [pt1, pt2, pt3]
      exact K_4_9_23.out _ _ _ _ hw
  intro key
  (try dsimp only [Act.put] at key); try simp only [pt1, pt2, pt3] at key
  have K_4_9 := Lib.hid key
  clear key
  refine memo (fun a G => ∀ (wn : World) (g20 : Nat), (Wk14 S i pc pt ph pl wc wn [g20] []) → G (a.put (some 7) (.pointer (some ⟨g20, 0, none⟩))) wn) 11 #[true, true, true, true, false, true, true, true, true, false, true, true, true, true, false, true, true, true, true, false, true, false, false, false, false, false, false, false] ?_ ?_
  · (try dsimp only [Act.put]); try simp only [pt1, pt2, pt3]
    intro wn g20 HW
    have HW := Lib.hid HW
    refine wpAnyH_ready (rs := [4, 21, 22, 23]) (by kernel_rfl) (by simp) (rc (fun K hK => ?_) (rc (fun K hK => ?_) (rc (fun K hK => ?_) (rc (fun K hK => ?_) AllReadyH.nil))))
    · skip
      go_simp
      refine (putCoin14_any _ S i pc _ (HLP.out.step HW.out.1).st).mono ?_
      rintro en w2 ⟨A0, A1, A2, A3, A4, n0, n1, n2, n3, n4, c0, c1, c2, c3, c4, sx, rfl, hsa, hfa, hb⟩
      have hw := HW.out.ca hb (Rs14.new hsa hfa HW.out.2.1)
      refine hK.out _ _ hw.1 (fun hHeld => ?_)
      clear hK K
      (try dsimp only [Act.put]); try simp only [pt1, pt2, pt3]
      exact K_4_20.out _ _ _ hw
    · skip
      go_simp
      have hw := HW.out.al [g20] []
      refine hK.out _ _ hw.1 (fun hHeld => ?_)
      clear hK K
      (try dsimp only [Act.put]); try simp only [pt1, pt2, pt3]
      exact K_20_21.out _ _ _ hw
    · skip
      go_simp
      have hw := HW.out.al [g20] []
      refine hK.out _ _ hw.1 (fun hHeld => ?_)
      clear hK K
      (try dsimp only [Act.put]); try simp only [pt1, pt2, pt3]
      exact K_20_22.out _ _ _ hw
    · skip
      go_simp
      have hw := HW.out.al [g20] []
      refine hK.out _ _ hw.1 (fun hHeld => ?_)
      clear hK K
      (try dsimp only [Act.put]); try simp only [pt1, pt2, pt3]
      exact K_20_23.out _ _ _ hw
  intro key
  (try dsimp only [Act.put] at key); try simp only [pt1, pt2, pt3] at key
  have K_20 := Lib.hid key
  clear key
  refine memo (fun a G => ∀ (wn : World) (g21 : Nat), (Wk14 S i pc pt ph pl wc wn [g21] []) → G (a.put (some 8) (.pointer (some ⟨g21, 0, none⟩))) wn) 11 #[true, true, true, true, false, true, true, true, true, false, true, true, true, true, false, true, true, true, true, false, false, true, false, false, false, false, false, false] ?_ ?_
  · (try dsimp only [Act.put]); try simp only [pt1, pt2, pt3]
    intro wn g21 HW
    have HW := Lib.hid HW
    refine wpAnyH_ready (rs := [4, 20, 22, 23]) (by kernel_rfl) (by simp) (rc (fun K hK => ?_) (rc (fun K hK => ?_) (rc (fun K hK => ?_) (rc (fun K hK => ?_) AllReadyH.nil))))
    · skip
      go_simp
      refine (putCoin14_any _ S i pc _ (HLP.out.step HW.out.1).st).mono ?_
      rintro en w2 ⟨A0, A1, A2, A3, A4, n0, n1, n2, n3, n4, c0, c1, c2, c3, c4, sx, rfl, hsa, hfa, hb⟩
      have hw := HW.out.ca hb (Rs14.new hsa hfa HW.out.2.1)
      refine hK.out _ _ hw.1 (fun hHeld => ?_)
      clear hK K
      (try dsimp only [Act.put]); try simp only [pt1, pt2, pt3]
      exact K_4_21.out _ _ _ hw
    · skip
      go_simp
      have hw := HW.out.al [] [g21]
      refine hK.out _ _ hw.1 (fun hHeld => ?_)
      clear hK K
      (try dsimp only [Act.put]); try simp only [pt1, pt2, pt3]
      exact K_20_21.out _ _ _ hw
    · skip
      go_simp
      have hw := HW.out.al [g21] []
      refine hK.out _ _ hw.1 (fun hHeld => ?_)
      clear hK K
      (try dsimp only [Act.put]); try simp only [pt1, pt2, pt3]
      exact K_21_22.out _ _ _ hw
    · skip
      go_simp
      have hw := HW.out.al [g21] []
      refine hK.out _ _ hw.1 (fun hHeld => ?_)
      clear hK K
      (try dsimp only [Act.put]); try simp only [pt1, pt2, pt3]
      exact K_21_23.out _ _ _ hw
  intro key
  (try dsimp only [Act.put] at key); try simp only [pt1, pt2, pt3] at key
  have K_21 := Lib.hid key
  clear key
  refine memo (fun a G => ∀ (wn : World) (g22 : Nat), (Wk14 S i pc pt ph pl wc wn [g22] []) → G (a.put (some 9) (.pointer (some ⟨g22, 0, none⟩))) wn) 11 #[true, true, true, true, false, true, true, true, true, false, true, true, true, true, false, true, true, true, true, false, false, false, true, false, false, false, false, false] ?_ ?_
  · (try dsimp only [Act.put]); try simp only [pt1, pt2, pt3]
    intro wn g22 HW
    have HW := Lib.hid HW
    refine wpAnyH_ready (rs := [4, 20, 21, 23]) (by kernel_rfl) (by simp) (rc (fun K hK => ?_) (rc (fun K hK => ?_) (rc (fun K hK => ?_) (rc (fun K hK => ?_) AllReadyH.nil))))
    · skip
      go_simp
      refine (putCoin14_any _ S i pc _ (HLP.out.step HW.out.1).st).mono ?_
      rintro en w2 ⟨A0, A1, A2, A3, A4, n0, n1, n2, n3, n4, c0, c1, c2, c3, c4, sx, rfl, hsa, hfa, hb⟩
      have hw := HW.out.ca hb (Rs14.new hsa hfa HW.out.2.1)
      refine hK.out _ _ hw.1 (fun hHeld => ?_)
      clear hK K
      (try dsimp only [Act.put]); try simp only [pt1, pt2, pt3]
      exact K_4_22.out _ _ _ hw
    · skip
      go_simp
      have hw := HW.out.al [] [g22]
      refine hK.out _ _ hw.1 (fun hHeld => ?_)
      clear hK K
      (try dsimp only [Act.put]); try simp only [pt1, pt2, pt3]
      exact K_20_22.out _ _ _ hw
    · skip
      go_simp
      have hw := HW.out.al [] [g22]
      refine hK.out _ _ hw.1 (fun hHeld => ?_)
      clear hK K
      (try dsimp only [Act.put]); try simp only [pt1, pt2, pt3]
      exact K_21_22.out _ _ _ hw
    · skip
      go_simp
      have hw := HW.out.al [g22] []
      refine hK.out _ _ hw.1 (fun hHeld => ?_)
      clear hK K
      (try dsimp only [Act.put]); try simp only [pt1, pt2, pt3]
      exact K_22_23.out _ _ _ hw
  intro key
  (try dsimp only [Act.put] at key); try simp only [pt1, pt2, pt3] at key
  have K_22 := Lib.hid key
  clear key
  refine memo (fun a G => ∀ (wn : World) (g23 : Nat), (Wk14 S i pc pt ph pl wc wn [g23] []) → G (a.put (some 10) (.pointer (some ⟨g23, 0, none⟩))) wn) 11 #[true, true, true, true, false, true, true, true, true, false, true, true, true, true, false, true, true, true, true, false, false, false, false, true, false, false, false, false] ?_ ?_
  · (try dsimp only [Act.put]); try simp only [pt1, pt2, pt3]
    intro wn g23 HW
    have HW := Lib.hid HW
    refine wpAnyH_ready (rs := [4, 20, 21, 22]) (by kernel_rfl) (by simp) (rc (fun K hK => ?_) (rc (fun K hK => ?_) (rc (fun K hK => ?_) (rc (fun K hK => ?_) AllReadyH.nil))))
    · skip
      go_simp
      refine (putCoin14_any _ S i pc _ (HLP.out.step HW.out.1).st).mono ?_
      rintro en w2 ⟨A0, A1, A2, A3, A4, n0, n1, n2, n3, n4, c0, c1, c2, c3, c4, sx, rfl, hsa, hfa, hb⟩
      have hw := HW.out.ca hb (Rs14.new hsa hfa HW.out.2.1)
      refine hK.out _ _ hw.1 (fun hHeld => ?_)
      clear hK K
      (try dsimp only [Act.put]); try simp only [pt1, pt2, pt3]
      exact K_4_23.out _ _ _ hw
    · skip
      go_simp
      have hw := HW.out.al [] [g23]
      refine hK.out _ _ hw.1 (fun hHeld => ?_)
      clear hK K
      (try dsimp only [Act.put]); try simp only [pt1, pt2, pt3]
      exact K_20_23.out _ _ _ hw
    · skip
      go_simp
      have hw := HW.out.al [] [g23]
      refine hK.out _ _ hw.1 (fun hHeld => ?_)
      clear hK K
      (try dsimp only [Act.put]); try simp only [pt1, pt2, pt3]
      exact K_21_23.out _ _ _ hw
    · skip
      go_simp
      have hw := HW.out.al [] [g23]
      refine hK.out _ _ hw.1 (fun hHeld => ?_)
      clear hK K
      (try dsimp only [Act.put]); try simp only [pt1, pt2, pt3]
      exact K_22_23.out _ _ _ hw
  intro key
  (try dsimp only [Act.put] at key); try simp only [pt1, pt2, pt3] at key
  have K_23 := Lib.hid key
  clear key
  refine memo (fun a G => ∀ (wn : World) (v4 : Value), (Wk14 S i pc pt ph pl wc wn [] [v4]) → G (a.put (some 29) v4) wn) 11 #[true, true, true, true, true, true, true, true, true, false, true, true, true, true, false, true, true, true, true, false, false, false, false, false, false, false, false, false] ?_ ?_
  · (try dsimp only [Act.put]); try simp only [pt1, pt2, pt3]
    intro wn v4 HW
    have HW := Lib.hid HW
    refine wpAnyH_ready (rs := [9, 20, 21, 22, 23]) (by kernel_rfl) (by simp) (rc (fun K hK => ?_) (rc (fun K hK => ?_) (rc (fun K hK => ?_) (rc (fun K hK => ?_) (rc (fun K hK => ?_) AllReadyH.nil)))))
    · skip
      go_simp
      refine (putTicket14_any _ S i pt.u pt.c pt.a pt.k pt.t pt.o _ (HLP.out.step HW.out.1).st).mono ?_
      rintro en w2 ⟨A0, A1, A2, A3, A4, n0, n1, n2, n3, n4, c0, c1, c2, c3, c4, sx, rfl, hsa, hfa, hb⟩
      have hw := HW.out.ca hb (Rs14.new hsa hfa HW.out.2.1)
      refine hK.out _ _ hw.1 (fun hHeld => ?_)
      clear hK K
      (try dsimp only [Act.put]); try simp only [pt1, pt2, pt3]
      exact K_4_9.out _ _ _ hw
    · skip
      go_simp
      have hw := HW.out.al [] []
      refine hK.out _ _ hw.1 (fun hHeld => ?_)
      clear hK K
      (try dsimp only [Act.put]); try simp only [pt1, pt2, pt3]
      exact K_4_20.out _ _ _ hw
    · skip
      go_simp
      have hw := HW.out.al [] []
      refine hK.out _ _ hw.1 (fun hHeld => ?_)
      clear hK K
      (try dsimp only [Act.put]); try simp only [pt1, pt2, pt3]
      exact K_4_21.out _ _ _ hw
    · skip
      go_simp
      have hw := HW.out.al [] []
      refine hK.out _ _ hw.1 (fun hHeld => ?_)
      clear hK K
      (try dsimp only [Act.put]); try simp only [pt1, pt2, pt3]
      exact K_4_22.out _ _ _ hw
    · skip
      go_simp
      have hw := HW.out.al [] []
      refine hK.out _ _ hw.1 (fun hHeld => ?_)
      clear hK K
      (try dsimp only [Act.put]); try simp only [pt1, pt2, pt3]
      exact K_4_23.out _ _ _ hw
  intro key
  (try dsimp only [Act.put] at key); try simp only [pt1, pt2, pt3] at key
  have K_4 := Lib.hid key
  clear key
  have HW : Hid (Wk14 S i pc pt ph pl wc wn [] []) := Lib.hid ⟨HBS.out, Zs14.nil wc wn, fun j v hv => by simp at hv⟩
  refine wpAnyH_ready (rs := [4, 20, 21, 22, 23]) (by kernel_rfl) (by simp) (rc (fun K hK => ?_) (rc (fun K hK => ?_) (rc (fun K hK => ?_) (rc (fun K hK => ?_) (rc (fun K hK => ?_) AllReadyH.nil)))))
  · skip
    go_simp
    refine (putCoin14_any _ S i pc _ (HLP.out.step HW.out.1).st).mono ?_
    rintro en w2 ⟨A0, A1, A2, A3, A4, n0, n1, n2, n3, n4, c0, c1, c2, c3, c4, sx, rfl, hsa, hfa, hb⟩
    have hw := HW.out.ca hb (Rs14.new hsa hfa HW.out.2.1)
    refine hK.out _ _ hw.1 (fun hHeld => ?_)
    clear hK K
    (try dsimp only [Act.put]); try simp only [pt1, pt2, pt3]
    exact K_4.out _ _ hw
  · skip
    go_simp
    have hw := HW.out.al [] []
    refine hK.out _ _ hw.1 (fun hHeld => ?_)
    clear hK K
    (try dsimp only [Act.put]); try simp only [pt1, pt2, pt3]
    exact K_20.out _ _ hw
  · skip
    go_simp
    have hw := HW.out.al [] []
    refine hK.out _ _ hw.1 (fun hHeld => ?_)
    clear hK K
    (try dsimp only [Act.put]); try simp only [pt1, pt2, pt3]
    exact K_21.out _ _ hw
  · skip
    go_simp
    have hw := HW.out.al [] []
    refine hK.out _ _ hw.1 (fun hHeld => ?_)
    clear hK K
    (try dsimp only [Act.put]); try simp only [pt1, pt2, pt3]
    exact K_22.out _ _ hw
  · skip
    go_simp
    have hw := HW.out.al [] []
    refine hK.out _ _ hw.1 (fun hHeld => ?_)
    clear hK K
    (try dsimp only [Act.put]); try simp only [pt1, pt2, pt3]
    exact K_23.out _ _ hw
end
end Go.Proofs.YtfoellhoaflofaaGreat
