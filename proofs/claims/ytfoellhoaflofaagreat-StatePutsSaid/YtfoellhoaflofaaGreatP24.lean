/-
  SaidStatePuts, part 24 of 26: what the theorem statePuts_holds reaches.
-/
import Derived.Test.YtfoellhoaflofaaGreatP23
namespace Go.Proofs.YtfoellhoaflofaaGreat
open Go.RowKit
set_option maxRecDepth 100000
section
variable {t0 t1 t2 t3 t4 t5 t6 t7 t8 t9 t10 t11 t12 t13 t14 t15 t16 t17 t18 t19 t20 t21 t22 t23 t24 t25 t26 t27 t28 t29 t30 t31 t32 t33 t34 t35 t36 t37 t38 t39 t40 t41 t42 t43 t44 t45 t46 t47 t48 t49 t50 t51 t52 t53 t54 t55 t56 t57 t58 t59 t60 t61 t62 t63 t64 t65 t66 t67 t68 t69 t70 t71 t72 t73 t74 t75 t76 t77 t78 t79 t80 t81 t82 t83 t84 t85 t86 t87 t88 t89 t90 t91 t92 t93 t94 t95 t96 t97 t98 t99 t100 t101 t102 t103 t104 t105 t106 t107 t108 t109 t110 t111 t112 t113 t114 t115 t116 t117 t118 t119 t120 t121 t122 t123 t124 t125 t126 t127 t128 t129 t130 t131 t132 t133 t134 t135 t136 t137 t138 t139 t140 t141 t142 t143 t144 t145 t146 t147 t148 t149 t150 t151 t152 t153 t154 t155 t156 t157 t158 t159 t160 t161 t162 t163 t164 t165 t166 t167 t168 t169 t170 t171 t172 t173 t174 t175 t176 t177 t178 t179 t180 t181 t182 t183 t184 t185 t186 t187 t188 t189 t190 t191 t192 t193 t194 t195 t196 t197 t198 t199 t200 t201 t202 t203 t204 t205 t206 t207 t208 t209 t210 t211 t212 t213 t214 t215 t216 t217 t218 t219 t220 t221 t222 t223 t224 t225 t226 t227 t228 t229 t230 t231 t232 t233 t234 t235 t236 t237 t238 t239 t240 t241 t242 t243 t244 t245 t246 t247 t248 t249 t250 : Value}
variable {Q : Exit → Act → World → Prop}
def ops14es : { o : Array Oper // (match Go.Func.body Tryz.f4 with | some c => regionOf14 c 18 | none => none) = some o } := ⟨_, rfl⟩
def ops14e : Array Oper := ops14es.1
def ops14fs : { o : Array Oper // (match Go.Func.body Tryz.f4 with | some c => regionOf14 c 22 | none => none) = some o } := ⟨_, rfl⟩
def ops14f : Array Oper := ops14fs.1
def ops14gs : { o : Array Oper // (match Go.Func.body Tryz.f4 with | some c => regionOf14 c 20 | none => none) = some o } := ⟨_, rfl⟩
def ops14g : Array Oper := ops14gs.1
set_option maxHeartbeats 16000000 in
theorem reg14_18 {w wc : World} {S : Sv14} {A0 A1 A2 A3 A4 : Option Addr} {n0 n1 n2 n3 n4 c0 c1 c2 c3 c4 : Nat} {sq : Int} {pc : Bool} {pt : Tk14} {ph : Th14} {pl : Lk14} {i : Int} {bC bT bH bL : Bool} (hlp : Lp14 w S A0 A1 A2 A3 A4 n0 n1 n2 n3 n4 c0 c1 c2 c3 c4 sq pc pt ph pl wc) (hC : us14 usC S.C i = bC) (hT : us14 usT S.T i = bT) (hH : us14 usH S.H i = bH) (hL : us14 usL S.L i = bL)
    (hP : ∀ c a d v w, Q (.panic c) (Act.put a (some d) v) w → Q (.panic c) a w)
    (hQ : ∀ (x133 x134 x135 x136 x137 x138 x139 x140 x141 x142 x143 x144 x145 x146 x147 x148 x149 x150 x151 x152 x153 x154 x155 x156 x157 x158 x159 : Value) (wn : World), Below wc.heap.size wc wn → Q .normal { tmps := #[t0, .int .i64 i, t2, .pointer (some ⟨w.heap.size, 0, none⟩), t4, t5, t6, t7, t8, t9, t10, t11, t12, t13, t14, t15, .bool bT, t17, .bool bH, t19, .bool bL, t21, t22, t23, t24, t25, t26, t27, t28, t29, t30, t31, t32, t33, t34, t35, t36, t37, t38, t39, t40, t41, t42, t43, t44, t45, t46, t47, t48, t49, t50, t51, t52, t53, t54, t55, t56, t57, t58, t59, t60, t61, t62, t63, t64, t65, t66, t67, t68, t69, t70, t71, t72, t73, t74, t75, t76, t77, t78, t79, t80, t81, t82, t83, t84, t85, t86, t87, t88, t89, t90, t91, t92, t93, t94, t95, t96, t97, t98, t99, t100, t101, t102, t103, t104, t105, t106, t107, t108, t109, t110, t111, t112, t113, t114, t115, t116, t117, t118, t119, t120, t121, t122, t123, t124, t125, t126, t127, t128, t129, t130, t131, t132, x133, x134, x135, x136, x137, x138, x139, x140, x141, x142, x143, x144, x145, x146, x147, x148, x149, x150, x151, x152, x153, x154, x155, x156, x157, x158, x159, .bool false, t161, t162, t163, t164, t165, t166, t167, t168, t169, t170, t171, t172, t173, t174, t175, t176, t177, t178, t179, t180, t181, t182, t183, t184, t185, t186, t187, t188, t189, t190, t191, t192, t193, t194, t195, t196, t197, t198, t199, t200, t201, t202, t203, t204, t205, t206, t207, t208, t209, t210, t211, t212, t213, t214, t215, t216, t217, t218, t219, t220, t221, t222, t223, t224, t225, t226, t227, t228, t229, t230, t231, t232, t233, t234, t235, t236, t237, t238, t239, t240, t241, t242, t243, t244, t245, t246, t247, t248, t249, t250], defers := [] } wn) :
    (Code.region 18 ops14e true).wp Tryz.prog Q { tmps := #[t0, .int .i64 i, t2, .pointer (some ⟨w.heap.size, 0, none⟩), t4, t5, t6, t7, t8, t9, t10, t11, t12, t13, t14, t15, .bool bT, t17, .bool bH, t19, .bool bL, t21, t22, t23, t24, t25, t26, t27, t28, t29, t30, t31, t32, t33, t34, t35, t36, t37, t38, t39, t40, t41, t42, t43, t44, t45, t46, t47, t48, t49, t50, t51, t52, t53, t54, t55, t56, t57, t58, t59, t60, t61, t62, t63, t64, t65, t66, t67, t68, t69, t70, t71, t72, t73, t74, t75, t76, t77, t78, t79, t80, t81, t82, t83, t84, t85, t86, t87, t88, t89, t90, t91, t92, t93, t94, t95, t96, t97, t98, t99, t100, t101, t102, t103, t104, t105, t106, t107, t108, t109, t110, t111, t112, t113, t114, t115, t116, t117, t118, t119, t120, t121, t122, t123, t124, t125, t126, t127, t128, t129, t130, t131, t132, t133, t134, t135, t136, t137, t138, t139, t140, t141, t142, t143, t144, t145, t146, t147, t148, t149, t150, t151, t152, t153, t154, t155, t156, t157, t158, t159, t160, t161, t162, t163, t164, t165, t166, t167, t168, t169, t170, t171, t172, t173, t174, t175, t176, t177, t178, t179, t180, t181, t182, t183, t184, t185, t186, t187, t188, t189, t190, t191, t192, t193, t194, t195, t196, t197, t198, t199, t200, t201, t202, t203, t204, t205, t206, t207, t208, t209, t210, t211, t212, t213, t214, t215, t216, t217, t218, t219, t220, t221, t222, t223, t224, t225, t226, t227, t228, t229, t230, t231, t232, t233, t234, t235, t236, t237, t238, t239, t240, t241, t242, t243, t244, t245, t246, t247, t248, t249, t250], defers := [] } wc := by
  have HLP := Lib.hid hlp
  clear hlp
  have hst : Below wc.heap.size wc wc.drew := (Below.refl _ _).drew
  have HBS := Lib.hid hst
  refine wp_region_held_drew (S := fun W => Below wc.heap.size wc W) (by kernel_rfl) hst (fun hHeld => ?_)
  change wpAnyH _ _ ops14e _ _ 28 #[false, false, false, false, false, false, false, false, false, false, false, false, false, false, false, false, false, false, false, false, false, false, false, false, false, false, false, false] _ _
  obtain ⟨wn, hwn⟩ : ∃ W, wc.drew = W := ⟨_, rfl⟩
  rw [hwn] at HBS hHeld
  rw [hwn]
  clear hwn
  refine tkp hP 0 (v := ?_) (fun W hS => ?_) ?_
  rotate_left
  · try dsimp only at hS
    have z0 := (HLP.out.step hS).x.cell 0
    have z1 := (HLP.out.step hS).x.cell 1
    have z2 := (HLP.out.step hS).x.cell 2
    have z3 := (HLP.out.step hS).x.cell 3
    have z4 := (HLP.out.step hS).x.cell 4
    have z5 := (HLP.out.step hS).x.cell 5
    go_simp
    try with_reducible rfl
  (try dsimp only [Act.put]); try simp only [pt1, pt2, pt3]
  refine tkp hP 1 (v := ?_) (fun W hS => ?_) ?_
  rotate_left
  · (go_simp; try with_reducible rfl)
  (try dsimp only [Act.put]); try simp only [pt1, pt2, pt3]
  refine tkp hP 3 (v := ?_) (fun W hS => ?_) ?_
  rotate_left
  · try dsimp only at hS
    have z0 := (HLP.out.step hS).x.cell 0
    have z1 := (HLP.out.step hS).x.cell 1
    have z2 := (HLP.out.step hS).x.cell 2
    have z3 := (HLP.out.step hS).x.cell 3
    have z4 := (HLP.out.step hS).x.cell 4
    have z5 := (HLP.out.step hS).x.cell 5
    go_simp
    try with_reducible rfl
  (try dsimp only [Act.put]); try simp only [pt1, pt2, pt3]
  refine tkp hP 4 (v := ?_) (fun W hS => ?_) ?_
  rotate_left
  · (go_simp; try with_reducible rfl)
  (try dsimp only [Act.put]); try simp only [pt1, pt2, pt3]
  refine rdy 2 (fun K hK => ?_)
  have HBS0 := HBS
  go_simp
  refine (coin14 _ S i bC _ (HLP.out.step HBS0.out).st hC).mono ?_
  rintro e w2 ⟨rfl, hb⟩
  have HBS := Lib.hid (HBS0.out.trans (hb.mono HBS0.out.size))
  clear hb HBS0
  refine hK.out _ _ HBS.out (fun hHeld => ?_)
  clear hK K
  (try dsimp only [Act.put]); try simp only [pt1, pt2, pt3]
  refine rdy 5 (fun K hK => ?_)
  have HBS0 := HBS
  go_simp
  refine (rCoin14 _ S i bC _ (HLP.out.step HBS0.out).st hC).mono ?_
  rintro e w2 ⟨rfl, hb⟩
  have HBS := Lib.hid (HBS0.out.trans (hb.mono HBS0.out.size))
  clear hb HBS0
  refine hK.out _ _ HBS.out (fun hHeld => ?_)
  clear hK K
  (try dsimp only [Act.put]); try simp only [pt1, pt2, pt3]
  refine tkp hP 6 (v := ?_) (fun W hS => ?_) ?_
  rotate_left
  · (go_simp; try with_reducible rfl)
  (try dsimp only [Act.put]); try simp only [pt1, pt2, pt3]
  refine tkp hP 7 (v := ?_) (fun W hS => ?_) ?_
  rotate_left
  · (go_simp; try with_reducible rfl)
  (try dsimp only [Act.put]); try simp only [pt1, pt2, pt3]
  refine tkp hP 8 (v := ?_) (fun W hS => ?_) ?_
  rotate_left
  · (go_simp; try with_reducible rfl)
  (try dsimp only [Act.put]); try simp only [pt1, pt2, pt3]
  refine tkp hP 9 (v := ?_) (fun W hS => ?_) ?_
  rotate_left
  · try dsimp only at hS
    have z0 := (HLP.out.step hS).x.cell 0
    have z1 := (HLP.out.step hS).x.cell 1
    have z2 := (HLP.out.step hS).x.cell 2
    have z3 := (HLP.out.step hS).x.cell 3
    have z4 := (HLP.out.step hS).x.cell 4
    have z5 := (HLP.out.step hS).x.cell 5
    go_simp
    try with_reducible rfl
  (try dsimp only [Act.put]); try simp only [pt1, pt2, pt3]
  refine tkp hP 10 (v := ?_) (fun W hS => ?_) ?_
  rotate_left
  · (go_simp; try with_reducible rfl)
  (try dsimp only [Act.put]); try simp only [pt1, pt2, pt3]
  refine rdy 11 (fun K hK => ?_)
  have HBS0 := HBS
  go_simp
  refine (rTicket14 _ S i bT _ (HLP.out.step HBS0.out).st hT).mono ?_
  rintro e w2 ⟨rfl, hb⟩
  have HBS := Lib.hid (HBS0.out.trans (hb.mono HBS0.out.size))
  clear hb HBS0
  refine hK.out _ _ HBS.out (fun hHeld => ?_)
  clear hK K
  (try dsimp only [Act.put]); try simp only [pt1, pt2, pt3]
  refine tkp hP 12 (v := ?_) (fun W hS => ?_) ?_
  rotate_left
  · (go_simp; try with_reducible rfl)
  (try dsimp only [Act.put]); try simp only [pt1, pt2, pt3]
  refine tkp hP 13 (v := ?_) (fun W hS => ?_) ?_
  rotate_left
  · (go_simp; try with_reducible rfl)
  (try dsimp only [Act.put]); try simp only [pt1, pt2, pt3]
  refine tkp hP 14 (v := ?_) (fun W hS => ?_) ?_
  rotate_left
  · (go_simp; try with_reducible rfl)
  (try dsimp only [Act.put]); try simp only [pt1, pt2, pt3]
  refine tkp hP 15 (v := ?_) (fun W hS => ?_) ?_
  rotate_left
  · (go_simp; try with_reducible rfl)
  (try dsimp only [Act.put]); try simp only [pt1, pt2, pt3]
  refine tkp hP 16 (v := ?_) (fun W hS => ?_) ?_
  rotate_left
  · try dsimp only at hS
    have z0 := (HLP.out.step hS).x.cell 0
    have z1 := (HLP.out.step hS).x.cell 1
    have z2 := (HLP.out.step hS).x.cell 2
    have z3 := (HLP.out.step hS).x.cell 3
    have z4 := (HLP.out.step hS).x.cell 4
    have z5 := (HLP.out.step hS).x.cell 5
    go_simp
    try with_reducible rfl
  (try dsimp only [Act.put]); try simp only [pt1, pt2, pt3]
  refine tkp hP 17 (v := ?_) (fun W hS => ?_) ?_
  rotate_left
  · (go_simp; try with_reducible rfl)
  (try dsimp only [Act.put]); try simp only [pt1, pt2, pt3]
  refine rdy 18 (fun K hK => ?_)
  have HBS0 := HBS
  go_simp
  refine (rThread14 _ S i bH _ (HLP.out.step HBS0.out).st hH).mono ?_
  rintro e w2 ⟨rfl, hb⟩
  have HBS := Lib.hid (HBS0.out.trans (hb.mono HBS0.out.size))
  clear hb HBS0
  refine hK.out _ _ HBS.out (fun hHeld => ?_)
  clear hK K
  (try dsimp only [Act.put]); try simp only [pt1, pt2, pt3]
  refine tkp hP 19 (v := ?_) (fun W hS => ?_) ?_
  rotate_left
  · (go_simp; try with_reducible rfl)
  (try dsimp only [Act.put]); try simp only [pt1, pt2, pt3]
  refine tkp hP 20 (v := ?_) (fun W hS => ?_) ?_
  rotate_left
  · (go_simp; try with_reducible rfl)
  (try dsimp only [Act.put]); try simp only [pt1, pt2, pt3]
  refine tkp hP 21 (v := ?_) (fun W hS => ?_) ?_
  rotate_left
  · (go_simp; try with_reducible rfl)
  (try dsimp only [Act.put]); try simp only [pt1, pt2, pt3]
  refine tkp hP 22 (v := ?_) (fun W hS => ?_) ?_
  rotate_left
  · (go_simp; try with_reducible rfl)
  (try dsimp only [Act.put]); try simp only [pt1, pt2, pt3]
  refine tkp hP 23 (v := ?_) (fun W hS => ?_) ?_
  rotate_left
  · try dsimp only at hS
    have z0 := (HLP.out.step hS).x.cell 0
    have z1 := (HLP.out.step hS).x.cell 1
    have z2 := (HLP.out.step hS).x.cell 2
    have z3 := (HLP.out.step hS).x.cell 3
    have z4 := (HLP.out.step hS).x.cell 4
    have z5 := (HLP.out.step hS).x.cell 5
    go_simp
    try with_reducible rfl
  (try dsimp only [Act.put]); try simp only [pt1, pt2, pt3]
  refine tkp hP 24 (v := ?_) (fun W hS => ?_) ?_
  rotate_left
  · (go_simp; try with_reducible rfl)
  (try dsimp only [Act.put]); try simp only [pt1, pt2, pt3]
  refine rdy 25 (fun K hK => ?_)
  have HBS0 := HBS
  go_simp
  refine (rLock14 _ S i bL _ (HLP.out.step HBS0.out).st hL).mono ?_
  rintro e w2 ⟨rfl, hb⟩
  have HBS := Lib.hid (HBS0.out.trans (hb.mono HBS0.out.size))
  clear hb HBS0
  refine hK.out _ _ HBS.out (fun hHeld => ?_)
  clear hK K
  (try dsimp only [Act.put]); try simp only [pt1, pt2, pt3]
  refine tkp hP 26 (v := ?_) (fun W hS => ?_) ?_
  rotate_left
  · (go_simp; try with_reducible rfl)
  (try dsimp only [Act.put]); try simp only [pt1, pt2, pt3]
  refine tkp hP 27 (v := ?_) (fun W hS => ?_) ?_
  rotate_left
  · (go_simp; try with_reducible rfl)
  (try dsimp only [Act.put]); try simp only [pt1, pt2, pt3]
  refine wpAnyH_done (by kernel_rfl) ?_ _
  exact hQ _ _ _ _ _ _ _ _ _ _ _ _ _ _ _ _ _ _ _ _ _ _ _ _ _ _ _ _ HBS.out
set_option maxHeartbeats 16000000 in
theorem reg14_22 {w wc : World} {S : Sv14} {A0 A1 A2 A3 A4 : Option Addr} {n0 n1 n2 n3 n4 c0 c1 c2 c3 c4 : Nat} {sq : Int} {pc : Bool} {pt : Tk14} {ph : Th14} {pl : Lk14} {rC rT rH rL : Int} (hlp : Lp14 w S A0 A1 A2 A3 A4 n0 n1 n2 n3 n4 c0 c1 c2 c3 c4 sq pc pt ph pl wc) (fC : Free14 usC S.C 16 rC) (fT : Free14 usT S.T 96 rT) (fH : Free14 usH S.H 32 rH) (fL : Free14 usL S.L 8 rL)
    (hP : ∀ c a d v w, Q (.panic c) (Act.put a (some d) v) w → Q (.panic c) a w)
    (hQ : ∀ (x222 x223 x224 x225 x226 x227 x228 x229 x230 x231 x232 x233 x234 x235 x236 x237 x238 x239 x240 x241 x242 x243 x244 x245 x246 x247 x248 x249 : Value) (wn : World), Below wc.heap.size wc wn → Q .normal { tmps := #[t0, t1, t2, .pointer (some ⟨w.heap.size, 0, none⟩), t4, t5, .bool true, t7, t8, t9, t10, t11, t12, t13, t14, t15, t16, t17, t18, t19, t20, t21, t22, t23, t24, t25, t26, t27, t28, t29, t30, t31, t32, t33, t34, t35, t36, t37, t38, t39, t40, t41, t42, t43, t44, t45, t46, t47, t48, t49, t50, t51, t52, t53, t54, t55, t56, t57, t58, t59, t60, t61, t62, t63, t64, t65, t66, t67, t68, t69, t70, t71, t72, t73, t74, t75, t76, t77, t78, t79, t80, t81, t82, t83, t84, t85, t86, t87, t88, t89, t90, t91, t92, t93, t94, t95, t96, t97, t98, t99, t100, t101, t102, t103, t104, t105, t106, t107, t108, t109, t110, t111, t112, t113, t114, t115, t116, t117, t118, t119, t120, t121, t122, t123, t124, t125, t126, t127, t128, t129, t130, t131, t132, t133, t134, t135, t136, t137, t138, t139, t140, t141, t142, t143, t144, t145, t146, t147, t148, t149, t150, t151, t152, t153, t154, t155, t156, t157, t158, t159, t160, t161, t162, t163, t164, t165, t166, t167, t168, t169, t170, t171, t172, t173, t174, t175, t176, t177, t178, t179, t180, t181, t182, t183, t184, t185, t186, t187, t188, t189, t190, t191, t192, t193, t194, t195, t196, t197, t198, t199, t200, t201, t202, t203, t204, t205, t206, t207, t208, t209, t210, t211, t212, t213, t214, t215, t216, t217, t218, t219, t220, t221, x222, x223, x224, x225, x226, x227, x228, x229, x230, x231, x232, x233, x234, x235, x236, x237, x238, x239, x240, x241, x242, x243, x244, x245, x246, x247, x248, x249, .bool true], defers := [] } wn) :
    (Code.region 22 ops14f true).wp Tryz.prog Q { tmps := #[t0, t1, t2, .pointer (some ⟨w.heap.size, 0, none⟩), t4, t5, t6, t7, t8, t9, t10, t11, t12, t13, t14, t15, t16, t17, t18, t19, t20, t21, t22, t23, t24, t25, t26, t27, t28, t29, t30, t31, t32, t33, t34, t35, t36, t37, t38, t39, t40, t41, t42, t43, t44, t45, t46, t47, t48, t49, t50, t51, t52, t53, t54, t55, t56, t57, t58, t59, t60, t61, t62, t63, t64, t65, t66, t67, t68, t69, t70, t71, t72, t73, t74, t75, t76, t77, t78, t79, t80, t81, t82, t83, t84, t85, t86, t87, t88, t89, t90, t91, t92, t93, t94, t95, t96, t97, t98, t99, t100, t101, t102, t103, t104, t105, t106, t107, t108, t109, t110, t111, t112, t113, t114, t115, t116, t117, t118, t119, t120, t121, t122, t123, t124, t125, t126, t127, t128, t129, t130, t131, t132, t133, t134, t135, t136, t137, t138, t139, t140, t141, t142, t143, t144, t145, t146, t147, t148, t149, t150, t151, t152, t153, t154, t155, t156, t157, t158, t159, t160, t161, t162, t163, t164, t165, t166, t167, t168, t169, t170, t171, t172, t173, t174, t175, t176, t177, t178, t179, t180, t181, t182, t183, t184, t185, t186, t187, t188, t189, t190, t191, t192, t193, t194, t195, t196, t197, t198, t199, t200, t201, t202, t203, t204, t205, t206, t207, t208, t209, t210, t211, t212, t213, t214, t215, t216, t217, t218, t219, t220, t221, t222, t223, t224, t225, t226, t227, t228, t229, t230, t231, t232, t233, t234, t235, t236, t237, t238, t239, t240, t241, t242, t243, t244, t245, t246, t247, t248, t249, t250], defers := [] } wc := by
  have HLP := Lib.hid hlp
  clear hlp
  have hst : Below wc.heap.size wc wc.drew := (Below.refl _ _).drew
  have HBS := Lib.hid hst
  refine wp_region_held_drew (S := fun W => Below wc.heap.size wc W) (by kernel_rfl) hst (fun hHeld => ?_)
  change wpAnyH _ _ ops14f _ _ 30 #[false, false, false, false, false, false, false, false, false, false, false, false, false, false, false, false, false, false, false, false, false, false, false, false, false, false, false, false, false, false] _ _
  obtain ⟨wn, hwn⟩ : ∃ W, wc.drew = W := ⟨_, rfl⟩
  rw [hwn] at HBS hHeld
  rw [hwn]
  clear hwn
  refine tkp hP 0 (v := ?_) (fun W hS => ?_) ?_
  rotate_left
  · try dsimp only at hS
    have z0 := (HLP.out.step hS).x.cell 0
    have z1 := (HLP.out.step hS).x.cell 1
    have z2 := (HLP.out.step hS).x.cell 2
    have z3 := (HLP.out.step hS).x.cell 3
    have z4 := (HLP.out.step hS).x.cell 4
    have z5 := (HLP.out.step hS).x.cell 5
    go_simp
    try with_reducible rfl
  (try dsimp only [Act.put]); try simp only [pt1, pt2, pt3]
  refine tkp hP 2 (v := ?_) (fun W hS => ?_) ?_
  rotate_left
  · try dsimp only at hS
    have z0 := (HLP.out.step hS).x.cell 0
    have z1 := (HLP.out.step hS).x.cell 1
    have z2 := (HLP.out.step hS).x.cell 2
    have z3 := (HLP.out.step hS).x.cell 3
    have z4 := (HLP.out.step hS).x.cell 4
    have z5 := (HLP.out.step hS).x.cell 5
    go_simp
    try with_reducible rfl
  (try dsimp only [Act.put]); try simp only [pt1, pt2, pt3]
  refine rdy 1 (fun K hK => ?_)
  have HBS0 := HBS
  go_simp
  refine (freeCoin14 _ S rC _ (HLP.out.step HBS0.out).st fC).mono ?_
  rintro e w2 ⟨rfl, hb⟩
  have HBS := Lib.hid (HBS0.out.trans (hb.mono HBS0.out.size))
  clear hb HBS0
  refine hK.out _ _ HBS.out (fun hHeld => ?_)
  clear hK K
  (try dsimp only [Act.put]); try simp only [pt1, pt2, pt3]
  refine rdy 3 (fun K hK => ?_)
  have HBS0 := HBS
  go_simp
  refine (rfree14_C _ S rC _ (HLP.out.step HBS0.out).st fC).mono ?_
  rintro e w2 ⟨rfl, hb⟩
  have HBS := Lib.hid (HBS0.out.trans (hb.mono HBS0.out.size))
  clear hb HBS0
  refine hK.out _ _ HBS.out (fun hHeld => ?_)
  clear hK K
  (try dsimp only [Act.put]); try simp only [pt1, pt2, pt3]
  refine tkp hP 4 (v := ?_) (fun W hS => ?_) ?_
  rotate_left
  · (go_simp; try with_reducible rfl)
  (try dsimp only [Act.put]); try simp only [pt1, pt2, pt3]
  refine tkp hP 5 (v := ?_) (fun W hS => ?_) ?_
  rotate_left
  · (go_simp; try with_reducible rfl)
  (try dsimp only [Act.put]); try simp only [pt1, pt2, pt3]
  refine tkp hP 6 (v := ?_) (fun W hS => ?_) ?_
  rotate_left
  · try dsimp only at hS
    have z0 := (HLP.out.step hS).x.cell 0
    have z1 := (HLP.out.step hS).x.cell 1
    have z2 := (HLP.out.step hS).x.cell 2
    have z3 := (HLP.out.step hS).x.cell 3
    have z4 := (HLP.out.step hS).x.cell 4
    have z5 := (HLP.out.step hS).x.cell 5
    go_simp
    try with_reducible rfl
  (try dsimp only [Act.put]); try simp only [pt1, pt2, pt3]
  refine tkp hP 8 (v := ?_) (fun W hS => ?_) ?_
  rotate_left
  · try dsimp only at hS
    have z0 := (HLP.out.step hS).x.cell 0
    have z1 := (HLP.out.step hS).x.cell 1
    have z2 := (HLP.out.step hS).x.cell 2
    have z3 := (HLP.out.step hS).x.cell 3
    have z4 := (HLP.out.step hS).x.cell 4
    have z5 := (HLP.out.step hS).x.cell 5
    go_simp
    try with_reducible rfl
  (try dsimp only [Act.put]); try simp only [pt1, pt2, pt3]
  refine rdy 7 (fun K hK => ?_)
  have HBS0 := HBS
  go_simp
  refine (freeTicket14 _ S rT _ (HLP.out.step HBS0.out).st fT).mono ?_
  rintro e w2 ⟨rfl, hb⟩
  have HBS := Lib.hid (HBS0.out.trans (hb.mono HBS0.out.size))
  clear hb HBS0
  refine hK.out _ _ HBS.out (fun hHeld => ?_)
  clear hK K
  (try dsimp only [Act.put]); try simp only [pt1, pt2, pt3]
  refine rdy 9 (fun K hK => ?_)
  have HBS0 := HBS
  go_simp
  refine (rfree14_T _ S rT _ (HLP.out.step HBS0.out).st fT).mono ?_
  rintro e w2 ⟨rfl, hb⟩
  have HBS := Lib.hid (HBS0.out.trans (hb.mono HBS0.out.size))
  clear hb HBS0
  refine hK.out _ _ HBS.out (fun hHeld => ?_)
  clear hK K
  (try dsimp only [Act.put]); try simp only [pt1, pt2, pt3]
  refine tkp hP 10 (v := ?_) (fun W hS => ?_) ?_
  rotate_left
  · (go_simp; try with_reducible rfl)
  (try dsimp only [Act.put]); try simp only [pt1, pt2, pt3]
  refine tkp hP 11 (v := ?_) (fun W hS => ?_) ?_
  rotate_left
  · (go_simp; try with_reducible rfl)
  (try dsimp only [Act.put]); try simp only [pt1, pt2, pt3]
  refine tkp hP 12 (v := ?_) (fun W hS => ?_) ?_
  rotate_left
  · (go_simp; try with_reducible rfl)
  (try dsimp only [Act.put]); try simp only [pt1, pt2, pt3]
  refine tkp hP 13 (v := ?_) (fun W hS => ?_) ?_
  rotate_left
  · try dsimp only at hS
    have z0 := (HLP.out.step hS).x.cell 0
    have z1 := (HLP.out.step hS).x.cell 1
    have z2 := (HLP.out.step hS).x.cell 2
    have z3 := (HLP.out.step hS).x.cell 3
    have z4 := (HLP.out.step hS).x.cell 4
    have z5 := (HLP.out.step hS).x.cell 5
    go_simp
    try with_reducible rfl
  (try dsimp only [Act.put]); try simp only [pt1, pt2, pt3]
  refine tkp hP 15 (v := ?_) (fun W hS => ?_) ?_
  rotate_left
  · try dsimp only at hS
    have z0 := (HLP.out.step hS).x.cell 0
    have z1 := (HLP.out.step hS).x.cell 1
    have z2 := (HLP.out.step hS).x.cell 2
    have z3 := (HLP.out.step hS).x.cell 3
    have z4 := (HLP.out.step hS).x.cell 4
    have z5 := (HLP.out.step hS).x.cell 5
    go_simp
    try with_reducible rfl
  (try dsimp only [Act.put]); try simp only [pt1, pt2, pt3]
  refine rdy 14 (fun K hK => ?_)
  have HBS0 := HBS
  go_simp
  refine (freeThread14 _ S rH _ (HLP.out.step HBS0.out).st fH).mono ?_
  rintro e w2 ⟨rfl, hb⟩
  have HBS := Lib.hid (HBS0.out.trans (hb.mono HBS0.out.size))
  clear hb HBS0
  refine hK.out _ _ HBS.out (fun hHeld => ?_)
  clear hK K
  (try dsimp only [Act.put]); try simp only [pt1, pt2, pt3]
  refine rdy 16 (fun K hK => ?_)
  have HBS0 := HBS
  go_simp
  refine (rfree14_H _ S rH _ (HLP.out.step HBS0.out).st fH).mono ?_
  rintro e w2 ⟨rfl, hb⟩
  have HBS := Lib.hid (HBS0.out.trans (hb.mono HBS0.out.size))
  clear hb HBS0
  refine hK.out _ _ HBS.out (fun hHeld => ?_)
  clear hK K
  (try dsimp only [Act.put]); try simp only [pt1, pt2, pt3]
  refine tkp hP 17 (v := ?_) (fun W hS => ?_) ?_
  rotate_left
  · (go_simp; try with_reducible rfl)
  (try dsimp only [Act.put]); try simp only [pt1, pt2, pt3]
  refine tkp hP 18 (v := ?_) (fun W hS => ?_) ?_
  rotate_left
  · (go_simp; try with_reducible rfl)
  (try dsimp only [Act.put]); try simp only [pt1, pt2, pt3]
  refine tkp hP 19 (v := ?_) (fun W hS => ?_) ?_
  rotate_left
  · (go_simp; try with_reducible rfl)
  (try dsimp only [Act.put]); try simp only [pt1, pt2, pt3]
  refine tkp hP 20 (v := ?_) (fun W hS => ?_) ?_
  rotate_left
  · try dsimp only at hS
    have z0 := (HLP.out.step hS).x.cell 0
    have z1 := (HLP.out.step hS).x.cell 1
    have z2 := (HLP.out.step hS).x.cell 2
    have z3 := (HLP.out.step hS).x.cell 3
    have z4 := (HLP.out.step hS).x.cell 4
    have z5 := (HLP.out.step hS).x.cell 5
    go_simp
    try with_reducible rfl
  (try dsimp only [Act.put]); try simp only [pt1, pt2, pt3]
  refine tkp hP 22 (v := ?_) (fun W hS => ?_) ?_
  rotate_left
  · try dsimp only at hS
    have z0 := (HLP.out.step hS).x.cell 0
    have z1 := (HLP.out.step hS).x.cell 1
    have z2 := (HLP.out.step hS).x.cell 2
    have z3 := (HLP.out.step hS).x.cell 3
    have z4 := (HLP.out.step hS).x.cell 4
    have z5 := (HLP.out.step hS).x.cell 5
    go_simp
    try with_reducible rfl
  (try dsimp only [Act.put]); try simp only [pt1, pt2, pt3]
  refine rdy 21 (fun K hK => ?_)
  have HBS0 := HBS
  go_simp
  refine (freeLock14 _ S rL _ (HLP.out.step HBS0.out).st fL).mono ?_
  rintro e w2 ⟨rfl, hb⟩
  have HBS := Lib.hid (HBS0.out.trans (hb.mono HBS0.out.size))
  clear hb HBS0
  refine hK.out _ _ HBS.out (fun hHeld => ?_)
  clear hK K
  (try dsimp only [Act.put]); try simp only [pt1, pt2, pt3]
  refine rdy 23 (fun K hK => ?_)
  have HBS0 := HBS
  go_simp
  refine (rfree14_L _ S rL _ (HLP.out.step HBS0.out).st fL).mono ?_
  rintro e w2 ⟨rfl, hb⟩
  have HBS := Lib.hid (HBS0.out.trans (hb.mono HBS0.out.size))
  clear hb HBS0
  refine hK.out _ _ HBS.out (fun hHeld => ?_)
  clear hK K
  (try dsimp only [Act.put]); try simp only [pt1, pt2, pt3]
  refine tkp hP 24 (v := ?_) (fun W hS => ?_) ?_
  rotate_left
  · (go_simp; try with_reducible rfl)
  (try dsimp only [Act.put]); try simp only [pt1, pt2, pt3]
  refine tkp hP 25 (v := ?_) (fun W hS => ?_) ?_
  rotate_left
  · (go_simp; try with_reducible rfl)
  (try dsimp only [Act.put]); try simp only [pt1, pt2, pt3]
  refine tkp hP 26 (v := ?_) (fun W hS => ?_) ?_
  rotate_left
  · (go_simp; try with_reducible rfl)
  (try dsimp only [Act.put]); try simp only [pt1, pt2, pt3]
  refine rdy 27 (fun K hK => ?_)
  have HBS0 := HBS
  go_simp
  refine (alive14_any _).mono ?_
  rintro e w2 ⟨rfl, hb⟩
  have HBS := Lib.hid (HBS0.out.trans (hb.mono HBS0.out.size))
  clear hb HBS0
  refine hK.out _ _ HBS.out (fun hHeld => ?_)
  clear hK K
  (try dsimp only [Act.put]); try simp only [pt1, pt2, pt3]
  refine tkp hP 28 (v := ?_) (fun W hS => ?_) ?_
  rotate_left
  · (go_simp; try with_reducible rfl)
  (try dsimp only [Act.put]); try simp only [pt1, pt2, pt3]
  refine rdy 29 (fun K hK => ?_)
  go_simp
  refine hK.out _ _ HBS.out (fun hHeld => ?_)
  clear hK K
  (try dsimp only [Act.put]); try simp only [pt1, pt2, pt3]
  refine wpAnyH_done (by kernel_rfl) ?_ _
  exact hQ _ _ _ _ _ _ _ _ _ _ _ _ _ _ _ _ _ _ _ _ _ _ _ _ _ _ _ _ _ HBS.out
theorem us14_pl {α : Type} [Inhabited α] {us : α → Bool} (hus : us default = false) {xs : List α} {i : Int} (h : us14 us xs i = true) : 0 ≤ i ∧ i.toNat < xs.length := by
  by_cases h0 : 0 ≤ i
  · refine ⟨h0, ?_⟩
    by_cases h1 : i.toNat < xs.length
    · exact h1
    · rw [us14_out hus (by omega)] at h
      cases h
  · rw [us14_neg us xs (by omega)] at h
    cases h
set_option maxHeartbeats 16000000 in
theorem reg14_20 {w wc : World} {S : Sv14} {A0 A1 A2 A3 A4 : Option Addr} {n0 n1 n2 n3 n4 c0 c1 c2 c3 c4 : Nat} {sq : Int} {pc : Bool} {pt : Tk14} {ph : Th14} {pl : Lk14} {i : Int} {g15 g17 g19 : Nat} {bT bH bL xu xo zu : Bool} {xc xa xk xt ys yf yc yq yu zh : Int} (hlp : Lp14 w S A0 A1 A2 A3 A4 n0 n1 n2 n3 n4 c0 c1 c2 c3 c4 sq pc pt ph pl wc)
    (hT : us14 usT S.T i = bT) (hH : us14 usH S.H i = bH) (hL : us14 usL S.L i = bL) (aT : at14 usT S.T i = ⟨xu, xc, xa, xk, xt, xo⟩) (aH : at14 usH S.H i = ⟨ys, yf, yc, yq, yu⟩) (aL : at14 usL S.L i = ⟨zu, zh⟩)
    (kT : Blk wc g15 43 #[.bool xu, .int .i64 xc, .int .i64 xa, .int .i64 xk, .int .i64 xt, .bool xo]) (kH : Blk wc g17 45 #[.int .i64 ys, .int .i64 yf, .int .i64 yc, .int .i64 yq, .int .i64 yu]) (kL : Blk wc g19 47 #[.bool zu, .int .i64 zh])
    (hP : ∀ c a d v w, Q (.panic c) (Act.put a (some d) v) w → Q (.panic c) a w)
    (hQ : ∀ (x161 x162 x163 x164 x165 x166 x167 x168 x169 x170 x171 x172 x173 x174 x175 x176 x177 x178 x179 x180 x181 x182 x183 x184 x185 x186 x187 x188 x189 x190 x191 x192 x193 x194 x195 x196 x197 x198 x199 x200 x201 x202 x203 x204 x205 x206 x207 x208 x209 x210 x211 x212 x213 x214 x215 x216 x217 x218 x219 x220 : Value) (wn : World), Below wc.heap.size wc wn → Q .normal { tmps := #[t0, .int .i64 i, t2, .pointer (some ⟨w.heap.size, 0, none⟩), t4, t5, t6, t7, t8, t9, t10, t11, t12, t13, t14, .pointer (some ⟨g15, 0, none⟩), .bool bT, .pointer (some ⟨g17, 0, none⟩), .bool bH, .pointer (some ⟨g19, 0, none⟩), .bool bL, t21, t22, t23, t24, t25, t26, t27, t28, t29, t30, t31, t32, t33, t34, t35, t36, t37, t38, t39, t40, t41, t42, t43, t44, t45, t46, t47, t48, t49, t50, t51, t52, t53, t54, t55, t56, t57, t58, t59, t60, t61, t62, t63, t64, t65, t66, t67, t68, t69, t70, t71, t72, t73, t74, t75, t76, t77, t78, t79, t80, t81, t82, t83, t84, t85, t86, t87, t88, t89, t90, t91, t92, t93, t94, t95, t96, t97, t98, t99, t100, t101, t102, t103, t104, t105, t106, t107, t108, t109, t110, t111, t112, t113, t114, t115, t116, t117, t118, t119, t120, t121, t122, t123, t124, t125, t126, t127, t128, t129, t130, t131, t132, t133, t134, t135, t136, t137, t138, t139, t140, t141, t142, t143, t144, t145, t146, t147, t148, t149, t150, t151, t152, t153, t154, t155, t156, t157, t158, t159, t160, x161, x162, x163, x164, x165, x166, x167, x168, x169, x170, x171, x172, x173, x174, x175, x176, x177, x178, x179, x180, x181, x182, x183, x184, x185, x186, x187, x188, x189, x190, x191, x192, x193, x194, x195, x196, x197, x198, x199, x200, x201, x202, x203, x204, x205, x206, x207, x208, x209, x210, x211, x212, x213, x214, x215, x216, x217, x218, x219, x220, .bool false, t222, t223, t224, t225, t226, t227, t228, t229, t230, t231, t232, t233, t234, t235, t236, t237, t238, t239, t240, t241, t242, t243, t244, t245, t246, t247, t248, t249, t250], defers := [] } wn) :
    (Code.region 20 ops14g true).wp Tryz.prog Q { tmps := #[t0, .int .i64 i, t2, .pointer (some ⟨w.heap.size, 0, none⟩), t4, t5, t6, t7, t8, t9, t10, t11, t12, t13, t14, .pointer (some ⟨g15, 0, none⟩), .bool bT, .pointer (some ⟨g17, 0, none⟩), .bool bH, .pointer (some ⟨g19, 0, none⟩), .bool bL, t21, t22, t23, t24, t25, t26, t27, t28, t29, t30, t31, t32, t33, t34, t35, t36, t37, t38, t39, t40, t41, t42, t43, t44, t45, t46, t47, t48, t49, t50, t51, t52, t53, t54, t55, t56, t57, t58, t59, t60, t61, t62, t63, t64, t65, t66, t67, t68, t69, t70, t71, t72, t73, t74, t75, t76, t77, t78, t79, t80, t81, t82, t83, t84, t85, t86, t87, t88, t89, t90, t91, t92, t93, t94, t95, t96, t97, t98, t99, t100, t101, t102, t103, t104, t105, t106, t107, t108, t109, t110, t111, t112, t113, t114, t115, t116, t117, t118, t119, t120, t121, t122, t123, t124, t125, t126, t127, t128, t129, t130, t131, t132, t133, t134, t135, t136, t137, t138, t139, t140, t141, t142, t143, t144, t145, t146, t147, t148, t149, t150, t151, t152, t153, t154, t155, t156, t157, t158, t159, t160, t161, t162, t163, t164, t165, t166, t167, t168, t169, t170, t171, t172, t173, t174, t175, t176, t177, t178, t179, t180, t181, t182, t183, t184, t185, t186, t187, t188, t189, t190, t191, t192, t193, t194, t195, t196, t197, t198, t199, t200, t201, t202, t203, t204, t205, t206, t207, t208, t209, t210, t211, t212, t213, t214, t215, t216, t217, t218, t219, t220, t221, t222, t223, t224, t225, t226, t227, t228, t229, t230, t231, t232, t233, t234, t235, t236, t237, t238, t239, t240, t241, t242, t243, t244, t245, t246, t247, t248, t249, t250], defers := [] } wc := by
  have HLP := Lib.hid hlp
  have HKT := Lib.hid kT
  have HKH := Lib.hid kH
  have HKL := Lib.hid kL
  clear hlp kT kH kL
  have hst : Below wc.heap.size wc wc.drew := (Below.refl _ _).drew
  have HBS := Lib.hid hst
  refine wp_region_held_drew (S := fun W => Below wc.heap.size wc W) (by kernel_rfl) hst (fun hHeld => ?_)
  change wpAnyH _ _ ops14g _ _ 61 #[false, false, false, false, false, false, false, false, false, false, false, false, false, false, false, false, false, false, false, false, false, false, false, false, false, false, false, false, false, false, false, false, false, false, false, false, false, false, false, false, false, false, false, false, false, false, false, false, false, false, false, false, false, false, false, false, false, false, false, false, false] _ _
  obtain ⟨wn, hwn⟩ : ∃ W, wc.drew = W := ⟨_, rfl⟩
  rw [hwn] at HBS hHeld
  rw [hwn]
  clear hwn hst
  refine memo (fun a G => ∀ (x161 x162 x163 x164 x165 x166 x167 x168 x169 x170 x171 x172 x173 x174 x175 x176 x177 x178 x179 x180 x181 x182 x183 x184 x185 x186 x187 x188 x189 x190 x191 x192 x193 x194 x195 x196 x197 x198 x199 : Value), G ((((((((((((((((((((((((((((((((((((((((a.put (some 161) x161).put (some 162) x162).put (some 163) x163).put (some 164) x164).put (some 165) x165).put (some 166) x166).put (some 167) x167).put (some 168) x168).put (some 169) x169).put (some 170) x170).put (some 171) x171).put (some 172) x172).put (some 173) x173).put (some 174) x174).put (some 175) x175).put (some 176) x176).put (some 177) x177).put (some 178) x178).put (some 179) x179).put (some 180) x180).put (some 181) x181).put (some 182) x182).put (some 183) x183).put (some 184) x184).put (some 185) x185).put (some 186) x186).put (some 187) x187).put (some 188) x188).put (some 189) x189).put (some 190) x190).put (some 191) x191).put (some 192) x192).put (some 193) x193).put (some 194) x194).put (some 195) x195).put (some 196) x196).put (some 197) x197).put (some 198) x198).put (some 199) x199).put (some 200) (.bool false)) wn) 21 #[true, true, true, true, true, true, true, true, true, true, true, true, true, true, true, true, true, true, true, true, true, true, true, true, true, true, true, true, true, true, true, true, true, true, true, true, true, true, true, true, false, false, false, false, false, false, false, false, false, false, false, false, false, false, false, false, false, false, false, false, false] ?_ ?_
  · (try dsimp only [Act.put]); try simp only [pt1, pt2, pt3]
    intro x161 x162 x163 x164 x165 x166 x167 x168 x169 x170 x171 x172 x173 x174 x175 x176 x177 x178 x179 x180 x181 x182 x183 x184 x185 x186 x187 x188 x189 x190 x191 x192 x193 x194 x195 x196 x197 x198 x199
    cases bL with
    | true =>
      have hi := us14_pl rfl hL
      obtain ⟨k, rfl⟩ : ∃ k : Nat, i = (k : Int) := ⟨i.toNat, by omega⟩
      have nL : k < S.L.length := hi.2
      have xL := (at14_yes hL).symm.trans aL
      rw [Int.toNat_natCast] at xL
      clear hi
      obtain ⟨aL, oL, hAL, hab, qL⟩ := Lq.at_ len14L (by omega) HLP.out.s.r3 nL
      rw [xL] at qL
      have e0 : wc.cell? ⟨aL, oL + k * 2, none⟩ = some (.bool zu) := qL 0 _ rfl
      have e1 : wc.cell? ⟨aL, oL + k * 2 + 1, none⟩ = some (.int .i64 zh) := qL 1 _ rfl
      have i1 : (k : Int) < (n3 : Int) := by have := HLP.out.s.l3; omega
      have i0 : (0 : Int) ≤ (k : Int) := by omega
      have HAL := Lib.hid hAL
      have HE := Lib.hid (And.intro hab (And.intro e0 ( e1 )))
      clear qL e0 e1 hab nL xL
      clear hAL
      refine tkp hP 40 (v := ?_) (fun W hS => ?_) ?_
      rotate_left
      · (go_simp; try with_reducible rfl)
      (try dsimp only [Act.put]); try simp only [pt1, pt2, pt3]
      refine tkp hP 41 (v := ?_) (fun W hS => ?_) ?_
      rotate_left
      · (go_simp; try with_reducible rfl)
      (try dsimp only [Act.put]); try simp only [pt1, pt2, pt3]
      refine tkp hP 42 (v := ?_) (fun W hS => ?_) ?_
      rotate_left
      · (go_simp; try with_reducible rfl)
      (try dsimp only [Act.put]); try simp only [pt1, pt2, pt3]
      refine tkp hP 43 (v := ?_) (fun W hS => ?_) ?_
      rotate_left
      · try dsimp only at hS
        have z0 := (HKL.out.below hS HKL.out.lt).cell 0
        have z1 := (HKL.out.below hS HKL.out.lt).cell 1
        go_simp
        try with_reducible rfl
      (try dsimp only [Act.put]); try simp only [pt1, pt2, pt3]
      refine tkp hP 44 (v := ?_) (fun W hS => ?_) ?_
      rotate_left
      · (go_simp; try with_reducible rfl)
      (try dsimp only [Act.put]); try simp only [pt1, pt2, pt3]
      refine tkp hP 45 (v := ?_) (fun W hS => ?_) ?_
      rotate_left
      · try dsimp only at hS
        have z0 := (HLP.out.step hS).x.cell 3
        rw [HAL.out] at z0
        go_simp
        try with_reducible rfl
      (try dsimp only [Act.put]); try simp only [pt1, pt2, pt3]
      refine tkp hP 46 (v := ?_) (fun W hS => ?_) ?_
      rotate_left
      · (go_simp; try with_reducible rfl)
      (try dsimp only [Act.put]); try simp only [pt1, pt2, pt3]
      refine tkp hP 47 (v := ?_) (fun W hS => ?_) ?_
      rotate_left
      · (go_simp; try with_reducible rfl)
      (try dsimp only [Act.put]); try simp only [pt1, pt2, pt3]
      refine tkp hP 48 (v := ?_) (fun W hS => ?_) ?_
      rotate_left
      · try dsimp only at hS
        obtain ⟨hab, e0, e1⟩ := HE.out
        have f0 : W.cell? ⟨aL, oL + k * 2, none⟩ = some (.bool zu) := (hS.cell (p := ⟨aL, oL + k * 2, none⟩) hab).trans e0
        have f1 : W.cell? ⟨aL, oL + k * 2 + 1, none⟩ = some (.int .i64 zh) := (hS.cell (p := ⟨aL, oL + k * 2 + 1, none⟩) hab).trans e1
        go_simp
        try with_reducible rfl
      (try dsimp only [Act.put]); try simp only [pt1, pt2, pt3]
      refine tkp hP 49 (v := ?_) (fun W hS => ?_) ?_
      rotate_left
      · try dsimp only at hS
        have hn := neq14L zu zh zu zh
        simp only [decide_true, Bool.not_true] at hn
        go_simp
        try with_reducible rfl
      (try dsimp only [Act.put]); try simp only [pt1, pt2, pt3]
      refine tkp hP 50 (v := ?_) (fun W hS => ?_) ?_
      rotate_left
      · (go_simp; try with_reducible rfl)
      (try dsimp only [Act.put]); try simp only [pt1, pt2, pt3]
      refine tkp hP 51 (v := ?_) (fun W hS => ?_) ?_
      rotate_left
      · (go_simp; try with_reducible rfl)
      (try dsimp only [Act.put]); try simp only [pt1, pt2, pt3]
      refine tkp hP 52 (v := ?_) (fun W hS => ?_) ?_
      rotate_left
      · (go_simp; try with_reducible rfl)
      (try dsimp only [Act.put]); try simp only [pt1, pt2, pt3]
      refine tkp hP 53 (v := ?_) (fun W hS => ?_) ?_
      rotate_left
      · (go_simp; try with_reducible rfl)
      (try dsimp only [Act.put]); try simp only [pt1, pt2, pt3]
      refine tkp hP 54 (v := ?_) (fun W hS => ?_) ?_
      rotate_left
      · (go_simp; try with_reducible rfl)
      (try dsimp only [Act.put]); try simp only [pt1, pt2, pt3]
      refine tkp hP 55 (v := ?_) (fun W hS => ?_) ?_
      rotate_left
      · (go_simp; try with_reducible rfl)
      (try dsimp only [Act.put]); try simp only [pt1, pt2, pt3]
      refine skp hP 56 ?_
      (try dsimp only [Act.put]); try simp only [pt1, pt2, pt3]
      refine skp hP 57 ?_
      (try dsimp only [Act.put]); try simp only [pt1, pt2, pt3]
      refine skp hP 58 ?_
      (try dsimp only [Act.put]); try simp only [pt1, pt2, pt3]
      refine tkp hP 59 (v := ?_) (fun W hS => ?_) ?_
      rotate_left
      · (go_simp; try with_reducible rfl)
      (try dsimp only [Act.put]); try simp only [pt1, pt2, pt3]
      refine tkp hP 60 (v := ?_) (fun W hS => ?_) ?_
      rotate_left
      · (go_simp; try with_reducible rfl)
      (try dsimp only [Act.put]); try simp only [pt1, pt2, pt3]
      refine wpAnyH_done (by kernel_rfl) ?_ _
      exact hQ _ _ _ _ _ _ _ _ _ _ _ _ _ _ _ _ _ _ _ _ _ _ _ _ _ _ _ _ _ _ _ _ _ _ _ _ _ _ _ _ _ _ _ _ _ _ _ _ _ _ _ _ _ _ _ _ _ _ _ _ wn HBS.out
    | false =>
      have e := (at14_no hL).symm.trans aL
      obtain ⟨rfl, rfl⟩ : zu = false ∧ zh = 0 := ⟨(congrArg Lk14.u e).symm, (congrArg Lk14.h e).symm⟩
      clear e
      refine tkp hP 40 (v := ?_) (fun W hS => ?_) ?_
      rotate_left
      · (go_simp; try with_reducible rfl)
      (try dsimp only [Act.put]); try simp only [pt1, pt2, pt3]
      refine tkp hP 41 (v := ?_) (fun W hS => ?_) ?_
      rotate_left
      · (go_simp; try with_reducible rfl)
      (try dsimp only [Act.put]); try simp only [pt1, pt2, pt3]
      refine tkp hP 42 (v := ?_) (fun W hS => ?_) ?_
      rotate_left
      · (go_simp; try with_reducible rfl)
      (try dsimp only [Act.put]); try simp only [pt1, pt2, pt3]
      refine skp hP 43 ?_
      (try dsimp only [Act.put]); try simp only [pt1, pt2, pt3]
      refine skp hP 44 ?_
      (try dsimp only [Act.put]); try simp only [pt1, pt2, pt3]
      refine skp hP 45 ?_
      (try dsimp only [Act.put]); try simp only [pt1, pt2, pt3]
      refine skp hP 46 ?_
      (try dsimp only [Act.put]); try simp only [pt1, pt2, pt3]
      refine skp hP 47 ?_
      (try dsimp only [Act.put]); try simp only [pt1, pt2, pt3]
      refine skp hP 48 ?_
      (try dsimp only [Act.put]); try simp only [pt1, pt2, pt3]
      refine skp hP 49 ?_
      (try dsimp only [Act.put]); try simp only [pt1, pt2, pt3]
      refine tkp hP 50 (v := ?_) (fun W hS => ?_) ?_
      rotate_left
      · (go_simp; try with_reducible rfl)
      (try dsimp only [Act.put]); try simp only [pt1, pt2, pt3]
      refine tkp hP 51 (v := ?_) (fun W hS => ?_) ?_
      rotate_left
      · (go_simp; try with_reducible rfl)
      (try dsimp only [Act.put]); try simp only [pt1, pt2, pt3]
      refine tkp hP 52 (v := ?_) (fun W hS => ?_) ?_
      rotate_left
      · (go_simp; try with_reducible rfl)
      (try dsimp only [Act.put]); try simp only [pt1, pt2, pt3]
      refine tkp hP 53 (v := ?_) (fun W hS => ?_) ?_
      rotate_left
      · (go_simp; try with_reducible rfl)
      (try dsimp only [Act.put]); try simp only [pt1, pt2, pt3]
      refine tkp hP 54 (v := ?_) (fun W hS => ?_) ?_
      rotate_left
      · (go_simp; try with_reducible rfl)
      (try dsimp only [Act.put]); try simp only [pt1, pt2, pt3]
      refine tkp hP 55 (v := ?_) (fun W hS => ?_) ?_
      rotate_left
      · (go_simp; try with_reducible rfl)
      (try dsimp only [Act.put]); try simp only [pt1, pt2, pt3]
      refine tkp hP 56 (v := ?_) (fun W hS => ?_) ?_
      rotate_left
      · try dsimp only at hS
        have z0 := (HKL.out.below hS HKL.out.lt).cell 0
        have z1 := (HKL.out.below hS HKL.out.lt).cell 1
        go_simp
        try with_reducible rfl
      (try dsimp only [Act.put]); try simp only [pt1, pt2, pt3]
      refine tkp hP 57 (v := ?_) (fun W hS => ?_) ?_
      rotate_left
      · (go_simp; try with_reducible rfl)
      (try dsimp only [Act.put]); try simp only [pt1, pt2, pt3]
      refine tkp hP 58 (v := ?_) (fun W hS => ?_) ?_
      rotate_left
      · try dsimp only at hS
        have hn := neq14L false 0 false 0
        simp only [decide_true, Bool.not_true] at hn
        go_simp
        try with_reducible rfl
      (try dsimp only [Act.put]); try simp only [pt1, pt2, pt3]
      refine tkp hP 59 (v := ?_) (fun W hS => ?_) ?_
      rotate_left
      · (go_simp; try with_reducible rfl)
      (try dsimp only [Act.put]); try simp only [pt1, pt2, pt3]
      refine tkp hP 60 (v := ?_) (fun W hS => ?_) ?_
      rotate_left
      · (go_simp; try with_reducible rfl)
      (try dsimp only [Act.put]); try simp only [pt1, pt2, pt3]
      refine wpAnyH_done (by kernel_rfl) ?_ _
      exact hQ _ _ _ _ _ _ _ _ _ _ _ _ _ _ _ _ _ _ _ _ _ _ _ _ _ _ _ _ _ _ _ _ _ _ _ _ _ _ _ _ _ _ _ _ _ _ _ _ _ _ _ _ _ _ _ _ _ _ _ _ wn HBS.out
  intro key
  (try dsimp only [Act.put] at key); try simp only [pt1, pt2, pt3] at key
  have M40 := Lib.hid key
  clear key
  refine memo (fun a G => ∀ (x161 x162 x163 x164 x165 x166 x167 x168 x169 x170 x171 x172 x173 x174 x175 x176 x177 x178 : Value), G (((((((((((((((((((a.put (some 161) x161).put (some 162) x162).put (some 163) x163).put (some 164) x164).put (some 165) x165).put (some 166) x166).put (some 167) x167).put (some 168) x168).put (some 169) x169).put (some 170) x170).put (some 171) x171).put (some 172) x172).put (some 173) x173).put (some 174) x174).put (some 175) x175).put (some 176) x176).put (some 177) x177).put (some 178) x178).put (some 179) (.bool false)) wn) 42 #[true, true, true, true, true, true, true, true, true, true, true, true, true, true, true, true, true, true, true, false, false, false, false, false, false, false, false, false, false, false, false, false, false, false, false, false, false, false, false, false, false, false, false, false, false, false, false, false, false, false, false, false, false, false, false, false, false, false, false, false, false] ?_ ?_
  · (try dsimp only [Act.put]); try simp only [pt1, pt2, pt3]
    intro x161 x162 x163 x164 x165 x166 x167 x168 x169 x170 x171 x172 x173 x174 x175 x176 x177 x178
    cases bH with
    | true =>
      have hi := us14_pl rfl hH
      obtain ⟨k, rfl⟩ : ∃ k : Nat, i = (k : Int) := ⟨i.toNat, by omega⟩
      have nH : k < S.H.length := hi.2
      have xH := (at14_yes hH).symm.trans aH
      rw [Int.toNat_natCast] at xH
      clear hi
      obtain ⟨aH, oH, hAH, hab, qH⟩ := Lq.at_ len14H (by omega) HLP.out.s.r2 nH
      rw [xH] at qH
      have e0 : wc.cell? ⟨aH, oH + k * 5, none⟩ = some (.int .i64 ys) := qH 0 _ rfl
      have e1 : wc.cell? ⟨aH, oH + k * 5 + 1, none⟩ = some (.int .i64 yf) := qH 1 _ rfl
      have e2 : wc.cell? ⟨aH, oH + k * 5 + 2, none⟩ = some (.int .i64 yc) := qH 2 _ rfl
      have e3 : wc.cell? ⟨aH, oH + k * 5 + 3, none⟩ = some (.int .i64 yq) := qH 3 _ rfl
      have e4 : wc.cell? ⟨aH, oH + k * 5 + 4, none⟩ = some (.int .i64 yu) := qH 4 _ rfl
      have i1 : (k : Int) < (n2 : Int) := by have := HLP.out.s.l2; omega
      have i0 : (0 : Int) ≤ (k : Int) := by omega
      have HAH := Lib.hid hAH
      have HE := Lib.hid (And.intro hab (And.intro e0 ( And.intro e1 ( And.intro e2 ( And.intro e3 ( e4 ))))))
      clear qH e0 e1 e2 e3 e4 hab nH xH
      clear hAH
      refine tkp hP 19 (v := ?_) (fun W hS => ?_) ?_
      rotate_left
      · (go_simp; try with_reducible rfl)
      (try dsimp only [Act.put]); try simp only [pt1, pt2, pt3]
      refine tkp hP 20 (v := ?_) (fun W hS => ?_) ?_
      rotate_left
      · (go_simp; try with_reducible rfl)
      (try dsimp only [Act.put]); try simp only [pt1, pt2, pt3]
      refine tkp hP 21 (v := ?_) (fun W hS => ?_) ?_
      rotate_left
      · (go_simp; try with_reducible rfl)
      (try dsimp only [Act.put]); try simp only [pt1, pt2, pt3]
      refine tkp hP 22 (v := ?_) (fun W hS => ?_) ?_
      rotate_left
      · try dsimp only at hS
        have z0 := (HKH.out.below hS HKH.out.lt).cell 0
        have z1 := (HKH.out.below hS HKH.out.lt).cell 1
        have z2 := (HKH.out.below hS HKH.out.lt).cell 2
        have z3 := (HKH.out.below hS HKH.out.lt).cell 3
        have z4 := (HKH.out.below hS HKH.out.lt).cell 4
        go_simp
        try with_reducible rfl
      (try dsimp only [Act.put]); try simp only [pt1, pt2, pt3]
      refine tkp hP 23 (v := ?_) (fun W hS => ?_) ?_
      rotate_left
      · (go_simp; try with_reducible rfl)
      (try dsimp only [Act.put]); try simp only [pt1, pt2, pt3]
      refine tkp hP 24 (v := ?_) (fun W hS => ?_) ?_
      rotate_left
      · try dsimp only at hS
        have z0 := (HLP.out.step hS).x.cell 2
        rw [HAH.out] at z0
        go_simp
        try with_reducible rfl
      (try dsimp only [Act.put]); try simp only [pt1, pt2, pt3]
      refine tkp hP 25 (v := ?_) (fun W hS => ?_) ?_
      rotate_left
      · (go_simp; try with_reducible rfl)
      (try dsimp only [Act.put]); try simp only [pt1, pt2, pt3]
      refine tkp hP 26 (v := ?_) (fun W hS => ?_) ?_
      rotate_left
      · (go_simp; try with_reducible rfl)
      (try dsimp only [Act.put]); try simp only [pt1, pt2, pt3]
      refine tkp hP 27 (v := ?_) (fun W hS => ?_) ?_
      rotate_left
      · try dsimp only at hS
        obtain ⟨hab, e0, e1, e2, e3, e4⟩ := HE.out
        have f0 : W.cell? ⟨aH, oH + k * 5, none⟩ = some (.int .i64 ys) := (hS.cell (p := ⟨aH, oH + k * 5, none⟩) hab).trans e0
        have f1 : W.cell? ⟨aH, oH + k * 5 + 1, none⟩ = some (.int .i64 yf) := (hS.cell (p := ⟨aH, oH + k * 5 + 1, none⟩) hab).trans e1
        have f2 : W.cell? ⟨aH, oH + k * 5 + 2, none⟩ = some (.int .i64 yc) := (hS.cell (p := ⟨aH, oH + k * 5 + 2, none⟩) hab).trans e2
        have f3 : W.cell? ⟨aH, oH + k * 5 + 3, none⟩ = some (.int .i64 yq) := (hS.cell (p := ⟨aH, oH + k * 5 + 3, none⟩) hab).trans e3
        have f4 : W.cell? ⟨aH, oH + k * 5 + 4, none⟩ = some (.int .i64 yu) := (hS.cell (p := ⟨aH, oH + k * 5 + 4, none⟩) hab).trans e4
        go_simp
        try with_reducible rfl
      (try dsimp only [Act.put]); try simp only [pt1, pt2, pt3]
      refine tkp hP 28 (v := ?_) (fun W hS => ?_) ?_
      rotate_left
      · try dsimp only at hS
        have hn := neq14H ys yf yc yq yu ys yf yc yq yu
        simp only [decide_true, Bool.not_true] at hn
        go_simp
        try with_reducible rfl
      (try dsimp only [Act.put]); try simp only [pt1, pt2, pt3]
      refine tkp hP 29 (v := ?_) (fun W hS => ?_) ?_
      rotate_left
      · (go_simp; try with_reducible rfl)
      (try dsimp only [Act.put]); try simp only [pt1, pt2, pt3]
      refine tkp hP 30 (v := ?_) (fun W hS => ?_) ?_
      rotate_left
      · (go_simp; try with_reducible rfl)
      (try dsimp only [Act.put]); try simp only [pt1, pt2, pt3]
      refine tkp hP 31 (v := ?_) (fun W hS => ?_) ?_
      rotate_left
      · (go_simp; try with_reducible rfl)
      (try dsimp only [Act.put]); try simp only [pt1, pt2, pt3]
      refine tkp hP 32 (v := ?_) (fun W hS => ?_) ?_
      rotate_left
      · (go_simp; try with_reducible rfl)
      (try dsimp only [Act.put]); try simp only [pt1, pt2, pt3]
      refine tkp hP 33 (v := ?_) (fun W hS => ?_) ?_
      rotate_left
      · (go_simp; try with_reducible rfl)
      (try dsimp only [Act.put]); try simp only [pt1, pt2, pt3]
      refine tkp hP 34 (v := ?_) (fun W hS => ?_) ?_
      rotate_left
      · (go_simp; try with_reducible rfl)
      (try dsimp only [Act.put]); try simp only [pt1, pt2, pt3]
      refine skp hP 35 ?_
      (try dsimp only [Act.put]); try simp only [pt1, pt2, pt3]
      refine skp hP 36 ?_
      (try dsimp only [Act.put]); try simp only [pt1, pt2, pt3]
      refine skp hP 37 ?_
      (try dsimp only [Act.put]); try simp only [pt1, pt2, pt3]
      refine tkp hP 38 (v := ?_) (fun W hS => ?_) ?_
      rotate_left
      · (go_simp; try with_reducible rfl)
      (try dsimp only [Act.put]); try simp only [pt1, pt2, pt3]
      refine tkp hP 39 (v := ?_) (fun W hS => ?_) ?_
      rotate_left
      · (go_simp; try with_reducible rfl)
      (try dsimp only [Act.put]); try simp only [pt1, pt2, pt3]
      exact M40.out _ _ _ _ _ _ _ _ _ _ _ _ _ _ _ _ _ _ _ _ _ _ _ _ _ _ _ _ _ _ _ _ _ _ _ _ _ _ _
    | false =>
      have e := (at14_no hH).symm.trans aH
      obtain ⟨rfl, rfl, rfl, rfl, rfl⟩ : ys = 0 ∧ yf = 0 ∧ yc = 0 ∧ yq = 0 ∧ yu = 0 := ⟨(congrArg Th14.s e).symm, (congrArg Th14.f e).symm, (congrArg Th14.c e).symm, (congrArg Th14.q e).symm, (congrArg Th14.u e).symm⟩
      clear e
      refine tkp hP 19 (v := ?_) (fun W hS => ?_) ?_
      rotate_left
      · (go_simp; try with_reducible rfl)
      (try dsimp only [Act.put]); try simp only [pt1, pt2, pt3]
      refine tkp hP 20 (v := ?_) (fun W hS => ?_) ?_
      rotate_left
      · (go_simp; try with_reducible rfl)
      (try dsimp only [Act.put]); try simp only [pt1, pt2, pt3]
      refine tkp hP 21 (v := ?_) (fun W hS => ?_) ?_
      rotate_left
      · (go_simp; try with_reducible rfl)
      (try dsimp only [Act.put]); try simp only [pt1, pt2, pt3]
      refine skp hP 22 ?_
      (try dsimp only [Act.put]); try simp only [pt1, pt2, pt3]
      refine skp hP 23 ?_
      (try dsimp only [Act.put]); try simp only [pt1, pt2, pt3]
      refine skp hP 24 ?_
      (try dsimp only [Act.put]); try simp only [pt1, pt2, pt3]
      refine skp hP 25 ?_
      (try dsimp only [Act.put]); try simp only [pt1, pt2, pt3]
      refine skp hP 26 ?_
      (try dsimp only [Act.put]); try simp only [pt1, pt2, pt3]
      refine skp hP 27 ?_
      (try dsimp only [Act.put]); try simp only [pt1, pt2, pt3]
      refine skp hP 28 ?_
      (try dsimp only [Act.put]); try simp only [pt1, pt2, pt3]
      refine tkp hP 29 (v := ?_) (fun W hS => ?_) ?_
      rotate_left
      · (go_simp; try with_reducible rfl)
      (try dsimp only [Act.put]); try simp only [pt1, pt2, pt3]
      refine tkp hP 30 (v := ?_) (fun W hS => ?_) ?_
      rotate_left
      · (go_simp; try with_reducible rfl)
      (try dsimp only [Act.put]); try simp only [pt1, pt2, pt3]
      refine tkp hP 31 (v := ?_) (fun W hS => ?_) ?_
      rotate_left
      · (go_simp; try with_reducible rfl)
      (try dsimp only [Act.put]); try simp only [pt1, pt2, pt3]
      refine tkp hP 32 (v := ?_) (fun W hS => ?_) ?_
      rotate_left
      · (go_simp; try with_reducible rfl)
      (try dsimp only [Act.put]); try simp only [pt1, pt2, pt3]
      refine tkp hP 33 (v := ?_) (fun W hS => ?_) ?_
      rotate_left
      · (go_simp; try with_reducible rfl)
      (try dsimp only [Act.put]); try simp only [pt1, pt2, pt3]
      refine tkp hP 34 (v := ?_) (fun W hS => ?_) ?_
      rotate_left
      · (go_simp; try with_reducible rfl)
      (try dsimp only [Act.put]); try simp only [pt1, pt2, pt3]
      refine tkp hP 35 (v := ?_) (fun W hS => ?_) ?_
      rotate_left
      · try dsimp only at hS
        have z0 := (HKH.out.below hS HKH.out.lt).cell 0
        have z1 := (HKH.out.below hS HKH.out.lt).cell 1
        have z2 := (HKH.out.below hS HKH.out.lt).cell 2
        have z3 := (HKH.out.below hS HKH.out.lt).cell 3
        have z4 := (HKH.out.below hS HKH.out.lt).cell 4
        go_simp
        try with_reducible rfl
      (try dsimp only [Act.put]); try simp only [pt1, pt2, pt3]
      refine tkp hP 36 (v := ?_) (fun W hS => ?_) ?_
      rotate_left
      · (go_simp; try with_reducible rfl)
      (try dsimp only [Act.put]); try simp only [pt1, pt2, pt3]
      refine tkp hP 37 (v := ?_) (fun W hS => ?_) ?_
      rotate_left
      · try dsimp only at hS
        have hn := neq14H 0 0 0 0 0 0 0 0 0 0
        simp only [decide_true, Bool.not_true] at hn
        go_simp
        try with_reducible rfl
      (try dsimp only [Act.put]); try simp only [pt1, pt2, pt3]
      refine tkp hP 38 (v := ?_) (fun W hS => ?_) ?_
      rotate_left
      · (go_simp; try with_reducible rfl)
      (try dsimp only [Act.put]); try simp only [pt1, pt2, pt3]
      refine tkp hP 39 (v := ?_) (fun W hS => ?_) ?_
      rotate_left
      · (go_simp; try with_reducible rfl)
      (try dsimp only [Act.put]); try simp only [pt1, pt2, pt3]
      exact M40.out _ _ _ _ _ _ _ _ _ _ _ _ _ _ _ _ _ _ _ _ _ _ _ _ _ _ _ _ _ _ _ _ _ _ _ _ _ _ _
  intro key
  (try dsimp only [Act.put] at key); try simp only [pt1, pt2, pt3] at key
  have M19 := Lib.hid key
  clear key
  cases bT with
  | true =>
    have hi := us14_pl rfl hT
    obtain ⟨k, rfl⟩ : ∃ k : Nat, i = (k : Int) := ⟨i.toNat, by omega⟩
    have nT : k < S.T.length := hi.2
    have xT := (at14_yes hT).symm.trans aT
    rw [Int.toNat_natCast] at xT
    clear hi
    obtain ⟨aT, oT, hAT, hab, qT⟩ := Lq.at_ len14T (by omega) HLP.out.s.r1 nT
    rw [xT] at qT
    have e0 : wc.cell? ⟨aT, oT + k * 6, none⟩ = some (.bool xu) := qT 0 _ rfl
    have e1 : wc.cell? ⟨aT, oT + k * 6 + 1, none⟩ = some (.int .i64 xc) := qT 1 _ rfl
    have e2 : wc.cell? ⟨aT, oT + k * 6 + 2, none⟩ = some (.int .i64 xa) := qT 2 _ rfl
    have e3 : wc.cell? ⟨aT, oT + k * 6 + 3, none⟩ = some (.int .i64 xk) := qT 3 _ rfl
    have e4 : wc.cell? ⟨aT, oT + k * 6 + 4, none⟩ = some (.int .i64 xt) := qT 4 _ rfl
    have e5 : wc.cell? ⟨aT, oT + k * 6 + 5, none⟩ = some (.bool xo) := qT 5 _ rfl
    have i1 : (k : Int) < (n1 : Int) := by have := HLP.out.s.l1; omega
    have i0 : (0 : Int) ≤ (k : Int) := by omega
    have HAT := Lib.hid hAT
    have HE := Lib.hid (And.intro hab (And.intro e0 ( And.intro e1 ( And.intro e2 ( And.intro e3 ( And.intro e4 ( e5 )))))))
    clear qT e0 e1 e2 e3 e4 e5 hab nT xT
    clear hAT
    refine tkp hP 0 (v := ?_) (fun W hS => ?_) ?_
    rotate_left
    · (go_simp; try with_reducible rfl)
    (try dsimp only [Act.put]); try simp only [pt1, pt2, pt3]
    refine tkp hP 1 (v := ?_) (fun W hS => ?_) ?_
    rotate_left
    · (go_simp; try with_reducible rfl)
    (try dsimp only [Act.put]); try simp only [pt1, pt2, pt3]
    refine tkp hP 2 (v := ?_) (fun W hS => ?_) ?_
    rotate_left
    · try dsimp only at hS
      have z0 := (HKT.out.below hS HKT.out.lt).cell 0
      have z1 := (HKT.out.below hS HKT.out.lt).cell 1
      have z2 := (HKT.out.below hS HKT.out.lt).cell 2
      have z3 := (HKT.out.below hS HKT.out.lt).cell 3
      have z4 := (HKT.out.below hS HKT.out.lt).cell 4
      have z5 := (HKT.out.below hS HKT.out.lt).cell 5
      go_simp
      try with_reducible rfl
    (try dsimp only [Act.put]); try simp only [pt1, pt2, pt3]
    refine tkp hP 3 (v := ?_) (fun W hS => ?_) ?_
    rotate_left
    · (go_simp; try with_reducible rfl)
    (try dsimp only [Act.put]); try simp only [pt1, pt2, pt3]
    refine tkp hP 4 (v := ?_) (fun W hS => ?_) ?_
    rotate_left
    · try dsimp only at hS
      have z0 := (HLP.out.step hS).x.cell 1
      rw [HAT.out] at z0
      go_simp
      try with_reducible rfl
    (try dsimp only [Act.put]); try simp only [pt1, pt2, pt3]
    refine tkp hP 5 (v := ?_) (fun W hS => ?_) ?_
    rotate_left
    · (go_simp; try with_reducible rfl)
    (try dsimp only [Act.put]); try simp only [pt1, pt2, pt3]
    refine tkp hP 6 (v := ?_) (fun W hS => ?_) ?_
    rotate_left
    · (go_simp; try with_reducible rfl)
    (try dsimp only [Act.put]); try simp only [pt1, pt2, pt3]
    refine tkp hP 7 (v := ?_) (fun W hS => ?_) ?_
    rotate_left
    · try dsimp only at hS
      obtain ⟨hab, e0, e1, e2, e3, e4, e5⟩ := HE.out
      have f0 : W.cell? ⟨aT, oT + k * 6, none⟩ = some (.bool xu) := (hS.cell (p := ⟨aT, oT + k * 6, none⟩) hab).trans e0
      have f1 : W.cell? ⟨aT, oT + k * 6 + 1, none⟩ = some (.int .i64 xc) := (hS.cell (p := ⟨aT, oT + k * 6 + 1, none⟩) hab).trans e1
      have f2 : W.cell? ⟨aT, oT + k * 6 + 2, none⟩ = some (.int .i64 xa) := (hS.cell (p := ⟨aT, oT + k * 6 + 2, none⟩) hab).trans e2
      have f3 : W.cell? ⟨aT, oT + k * 6 + 3, none⟩ = some (.int .i64 xk) := (hS.cell (p := ⟨aT, oT + k * 6 + 3, none⟩) hab).trans e3
      have f4 : W.cell? ⟨aT, oT + k * 6 + 4, none⟩ = some (.int .i64 xt) := (hS.cell (p := ⟨aT, oT + k * 6 + 4, none⟩) hab).trans e4
      have f5 : W.cell? ⟨aT, oT + k * 6 + 5, none⟩ = some (.bool xo) := (hS.cell (p := ⟨aT, oT + k * 6 + 5, none⟩) hab).trans e5
      go_simp
      try with_reducible rfl
    (try dsimp only [Act.put]); try simp only [pt1, pt2, pt3]
    refine tkp hP 8 (v := ?_) (fun W hS => ?_) ?_
    rotate_left
    · try dsimp only at hS
      have hn := neq14T xu xc xa xk xt xo xu xc xa xk xt xo
      simp only [decide_true, Bool.not_true] at hn
      go_simp
      try with_reducible rfl
    (try dsimp only [Act.put]); try simp only [pt1, pt2, pt3]
    refine tkp hP 9 (v := ?_) (fun W hS => ?_) ?_
    rotate_left
    · (go_simp; try with_reducible rfl)
    (try dsimp only [Act.put]); try simp only [pt1, pt2, pt3]
    refine tkp hP 10 (v := ?_) (fun W hS => ?_) ?_
    rotate_left
    · (go_simp; try with_reducible rfl)
    (try dsimp only [Act.put]); try simp only [pt1, pt2, pt3]
    refine tkp hP 11 (v := ?_) (fun W hS => ?_) ?_
    rotate_left
    · (go_simp; try with_reducible rfl)
    (try dsimp only [Act.put]); try simp only [pt1, pt2, pt3]
    refine tkp hP 12 (v := ?_) (fun W hS => ?_) ?_
    rotate_left
    · (go_simp; try with_reducible rfl)
    (try dsimp only [Act.put]); try simp only [pt1, pt2, pt3]
    refine tkp hP 13 (v := ?_) (fun W hS => ?_) ?_
    rotate_left
    · (go_simp; try with_reducible rfl)
    (try dsimp only [Act.put]); try simp only [pt1, pt2, pt3]
    refine skp hP 14 ?_
    (try dsimp only [Act.put]); try simp only [pt1, pt2, pt3]
    refine skp hP 15 ?_
    (try dsimp only [Act.put]); try simp only [pt1, pt2, pt3]
    refine skp hP 16 ?_
    (try dsimp only [Act.put]); try simp only [pt1, pt2, pt3]
    refine tkp hP 17 (v := ?_) (fun W hS => ?_) ?_
    rotate_left
    · (go_simp; try with_reducible rfl)
    (try dsimp only [Act.put]); try simp only [pt1, pt2, pt3]
    refine tkp hP 18 (v := ?_) (fun W hS => ?_) ?_
    rotate_left
    · (go_simp; try with_reducible rfl)
    (try dsimp only [Act.put]); try simp only [pt1, pt2, pt3]
    exact M19.out _ _ _ _ _ _ _ _ _ _ _ _ _ _ _ _ _ _
  | false =>
    have e := (at14_no hT).symm.trans aT
    obtain ⟨rfl, rfl, rfl, rfl, rfl, rfl⟩ : xu = false ∧ xc = 0 ∧ xa = 0 ∧ xk = 0 ∧ xt = 0 ∧ xo = false := ⟨(congrArg Tk14.u e).symm, (congrArg Tk14.c e).symm, (congrArg Tk14.a e).symm, (congrArg Tk14.k e).symm, (congrArg Tk14.t e).symm, (congrArg Tk14.o e).symm⟩
    clear e
    refine tkp hP 0 (v := ?_) (fun W hS => ?_) ?_
    rotate_left
    · (go_simp; try with_reducible rfl)
    (try dsimp only [Act.put]); try simp only [pt1, pt2, pt3]
    refine tkp hP 1 (v := ?_) (fun W hS => ?_) ?_
    rotate_left
    · (go_simp; try with_reducible rfl)
    (try dsimp only [Act.put]); try simp only [pt1, pt2, pt3]
    refine skp hP 2 ?_
    (try dsimp only [Act.put]); try simp only [pt1, pt2, pt3]
    refine skp hP 3 ?_
    (try dsimp only [Act.put]); try simp only [pt1, pt2, pt3]
    refine skp hP 4 ?_
    (try dsimp only [Act.put]); try simp only [pt1, pt2, pt3]
    refine skp hP 5 ?_
    (try dsimp only [Act.put]); try simp only [pt1, pt2, pt3]
    refine skp hP 6 ?_
    (try dsimp only [Act.put]); try simp only [pt1, pt2, pt3]
    refine skp hP 7 ?_
    (try dsimp only [Act.put]); try simp only [pt1, pt2, pt3]
    refine skp hP 8 ?_
    (try dsimp only [Act.put]); try simp only [pt1, pt2, pt3]
    refine tkp hP 9 (v := ?_) (fun W hS => ?_) ?_
    rotate_left
    · (go_simp; try with_reducible rfl)
    (try dsimp only [Act.put]); try simp only [pt1, pt2, pt3]
    refine tkp hP 10 (v := ?_) (fun W hS => ?_) ?_
    rotate_left
    · (go_simp; try with_reducible rfl)
    (try dsimp only [Act.put]); try simp only [pt1, pt2, pt3]
    refine tkp hP 11 (v := ?_) (fun W hS => ?_) ?_
    rotate_left
    · (go_simp; try with_reducible rfl)
    (try dsimp only [Act.put]); try simp only [pt1, pt2, pt3]
    refine tkp hP 12 (v := ?_) (fun W hS => ?_) ?_
    rotate_left
    · (go_simp; try with_reducible rfl)
    (try dsimp only [Act.put]); try simp only [pt1, pt2, pt3]
    refine tkp hP 13 (v := ?_) (fun W hS => ?_) ?_
    rotate_left
    · (go_simp; try with_reducible rfl)
    (try dsimp only [Act.put]); try simp only [pt1, pt2, pt3]
    refine tkp hP 14 (v := ?_) (fun W hS => ?_) ?_
    rotate_left
    · try dsimp only at hS
      have z0 := (HKT.out.below hS HKT.out.lt).cell 0
      have z1 := (HKT.out.below hS HKT.out.lt).cell 1
      have z2 := (HKT.out.below hS HKT.out.lt).cell 2
      have z3 := (HKT.out.below hS HKT.out.lt).cell 3
      have z4 := (HKT.out.below hS HKT.out.lt).cell 4
      have z5 := (HKT.out.below hS HKT.out.lt).cell 5
      go_simp
      try with_reducible rfl
    (try dsimp only [Act.put]); try simp only [pt1, pt2, pt3]
    refine tkp hP 15 (v := ?_) (fun W hS => ?_) ?_
    rotate_left
    · (go_simp; try with_reducible rfl)
    (try dsimp only [Act.put]); try simp only [pt1, pt2, pt3]
    refine tkp hP 16 (v := ?_) (fun W hS => ?_) ?_
    rotate_left
    · try dsimp only at hS
      have hn := neq14T false 0 0 0 0 false false 0 0 0 0 false
      simp only [decide_true, Bool.not_true] at hn
      go_simp
      try with_reducible rfl
    (try dsimp only [Act.put]); try simp only [pt1, pt2, pt3]
    refine tkp hP 17 (v := ?_) (fun W hS => ?_) ?_
    rotate_left
    · (go_simp; try with_reducible rfl)
    (try dsimp only [Act.put]); try simp only [pt1, pt2, pt3]
    refine tkp hP 18 (v := ?_) (fun W hS => ?_) ?_
    rotate_left
    · (go_simp; try with_reducible rfl)
    (try dsimp only [Act.put]); try simp only [pt1, pt2, pt3]
    exact M19.out _ _ _ _ _ _ _ _ _ _ _ _ _ _ _ _ _ _
end
end Go.Proofs.YtfoellhoaflofaaGreat
