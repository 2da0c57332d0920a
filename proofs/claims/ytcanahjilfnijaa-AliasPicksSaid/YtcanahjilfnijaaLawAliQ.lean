/-
  Whether a table is fair, place by place: the drawn question of one round, a theorem for each of two ways.
-/
import Derived.Test.YtcanahjilfnijaaLawAliA
namespace Go.Proofs.Ytcanahjilfnijaa
open Go.RowKit
set_option maxRecDepth 100000

/-- The operations of a region of a function's body. -/
def regionOf12 : Code → Nat → Option (Array Oper)
  | .region id ops _, n => if id = n then some ops else none
  | .seq x y, n => (regionOf12 x n).orElse fun _ => regionOf12 y n
  | .cond _ x y, n => (regionOf12 x n).orElse fun _ => regionOf12 y n
  | .block _ x, n => regionOf12 x n
  | .loop x, n => regionOf12 x n
  | _, _ => none
def ops26s : { o : Array Oper // (match Go.Func.body Try.f4 with | some c => regionOf12 c 26 | none => none) = some o } := ⟨_, rfl⟩
def ops26 : Array Oper := ops26s.1

section
variable {t n m d k y q b0 a2 p c2 : Nat} {A2 : Option Addr} {wc : World}
variable {t0 t1 t2 t3 t4 t5 t6 t7 t8 t9 t10 t11 t12 t13 t14 t15 t16 t17 t18 t19 t20 t21 t22 t23 t24 t25 t26 t27 t28 t29 t30 t31 t32 t33 t34 t35 t36 t37 t38 t39 t40 t41 t42 t43 t44 t45 t46 t47 t48 t49 t50 t51 t52 t53 t54 t55 t56 t57 t58 t59 t60 t61 t62 t63 t64 t65 t66 t67 t68 t69 t70 t71 t72 t73 t74 t75 t76 t77 t78 t79 t80 t81 t82 t83 t84 t85 t86 t87 t88 t89 t90 t91 t92 t93 t94 t95 t96 t97 t98 t99 t100 t101 t102 t103 t104 t105 t106 t107 t108 t109 t110 t111 t112 t113 t114 t115 t116 t117 t118 t119 t120 t121 t122 t123 t124 t125 t126 t127 t128 t129 t130 t131 t132 t133 t134 t135 t136 t137 t138 t139 t140 t141 t142 t143 t144 t145 t146 t147 t148 t149 t150 t151 t152 t153 t154 t155 t156 t157 t158 t159 t160 t161 t162 t163 t164 t165 t166 t167 t168 t169 t170 t171 t172 t173 t174 t175 t176 t177 t178 t179 t180 t181 t182 t183 t184 t185 t186 t187 t188 t189 t190 t191 t192 t193 t194 t195 t196 t197 t198 t199 t200 t201 t202 t203 t204 t205 t206 t207 t208 t209 t210 t211 t212 t213 t214 t215 t216 t217 t218 t219 t220 : Value}
variable {Q : Exit → Act → World → Prop}
set_option maxHeartbeats 16000000 in
theorem reg26y_r (HCT : Hid (∀ W, Below wc.heap.size wc W → Calls Try.prog 15 #[.int .u64 (t : Int), .slice A2 n c2, .int .i64 (k : Int)] W (RetNum W q))) (HOY : Hid (∀ W, Calls Try.prog 10 #[.int .u64 (y : Int)] W (RetNum W y))) (HOM : Hid (∀ W, Calls Try.prog 10 #[.int .u64 (m : Int)] W (RetNum W m))) (HPX : Hid (y < 65536 ^ 100 ∧ m < 65536 ^ 100 ∧ y * m < 65536 ^ 100 ∧ q < 65536 ^ 100)) (hwm : IntKind.u64.wrap (m : Int) = (m : Int)) (hk : k < m) (y0 : wc.cell? ⟨b0, 0, none⟩ = some (.int .u64 (t : Int))) (y1 : wc.cell? ⟨a2, p + k, none⟩ = some (.int .u64 (y : Int))) (HEQ : Hid (q = y * m))
    (hP : ∀ c a d v w, Q (.panic c) (Act.put a (some d) v) w → Q (.panic c) a w)
    (hQ : ∀ (x196 x197 x198 x199 x200 x201 x202 x203 x204 x205 x206 x207 x208 x209 x210 x211 x212 : Value) (wn : World), Below wc.heap.size wc wn → Q .normal { tmps := #[t0, t1, t2, .slice (some ⟨a2, p, none⟩) m d, .pointer (some ⟨b0, 0, none⟩), t5, t6, t7, t8, .slice A2 n c2, t10, t11, t12, t13, t14, t15, t16, t17, t18, t19, t20, t21, t22, .bool true, .int .i64 (k : Int), t25, t26, t27, t28, t29, t30, t31, t32, t33, t34, t35, t36, t37, t38, t39, t40, t41, t42, t43, t44, t45, t46, t47, t48, t49, t50, t51, t52, t53, t54, t55, t56, t57, t58, t59, t60, t61, t62, t63, t64, t65, t66, t67, t68, t69, t70, t71, t72, t73, t74, t75, t76, t77, t78, t79, t80, t81, t82, t83, t84, t85, t86, t87, t88, t89, t90, t91, t92, t93, t94, t95, t96, t97, t98, t99, t100, t101, t102, t103, t104, t105, t106, t107, t108, t109, t110, t111, t112, t113, t114, t115, t116, t117, t118, t119, t120, t121, t122, t123, t124, t125, t126, t127, t128, t129, t130, t131, t132, t133, t134, t135, t136, t137, t138, t139, t140, t141, t142, t143, t144, t145, t146, t147, t148, t149, t150, t151, t152, t153, t154, t155, t156, t157, t158, t159, t160, t161, t162, t163, t164, t165, t166, t167, t168, t169, t170, t171, t172, t173, t174, t175, t176, t177, t178, t179, t180, t181, t182, t183, t184, t185, t186, t187, t188, t189, t190, t191, t192, t193, t194, t195, x196, x197, x198, x199, x200, x201, x202, x203, x204, x205, x206, x207, x208, x209, x210, x211, x212, t213, t214, t215, t216, t217, t218, t219, t220], defers := [] } wn) :
    (Code.region 26 ops26 true).wp Try.prog Q { tmps := #[t0, t1, t2, .slice (some ⟨a2, p, none⟩) m d, .pointer (some ⟨b0, 0, none⟩), t5, t6, t7, t8, .slice A2 n c2, t10, t11, t12, t13, t14, t15, t16, t17, t18, t19, t20, t21, t22, .bool true, .int .i64 (k : Int), t25, t26, t27, t28, t29, t30, t31, t32, t33, t34, t35, t36, t37, t38, t39, t40, t41, t42, t43, t44, t45, t46, t47, t48, t49, t50, t51, t52, t53, t54, t55, t56, t57, t58, t59, t60, t61, t62, t63, t64, t65, t66, t67, t68, t69, t70, t71, t72, t73, t74, t75, t76, t77, t78, t79, t80, t81, t82, t83, t84, t85, t86, t87, t88, t89, t90, t91, t92, t93, t94, t95, t96, t97, t98, t99, t100, t101, t102, t103, t104, t105, t106, t107, t108, t109, t110, t111, t112, t113, t114, t115, t116, t117, t118, t119, t120, t121, t122, t123, t124, t125, t126, t127, t128, t129, t130, t131, t132, t133, t134, t135, t136, t137, t138, t139, t140, t141, t142, t143, t144, t145, t146, t147, t148, t149, t150, t151, t152, t153, t154, t155, t156, t157, t158, t159, t160, t161, t162, t163, t164, t165, t166, t167, t168, t169, t170, t171, t172, t173, t174, t175, t176, t177, t178, t179, t180, t181, t182, t183, t184, t185, t186, t187, t188, t189, t190, t191, t192, t193, t194, t195, t196, t197, t198, t199, t200, t201, t202, t203, t204, t205, t206, t207, t208, t209, t210, t211, t212, t213, t214, t215, t216, t217, t218, t219, t220], defers := [] } wc := by
  have i0 : (0 : Int) ≤ (k : Int) := by omega
  have i1 : (k : Int) < (m : Int) := by omega
  clear hk
  have hst : Below wc.heap.size wc wc.drew := (Below.refl _ _).drew
  have HBS := Lib.hid hst
  refine wp_region_held_drew (S := fun W => Below wc.heap.size wc W) (by kernel_rfl) hst (fun hHeld => ?_)
  change wpAnyH _ _ ops26 _ _ 18 #[false, false, false, false, false, false, false, false, false, false, false, false, false, false, false, false, false, false] _ _
  obtain ⟨wn, hwn⟩ : ∃ W, wc.drew = W := ⟨_, rfl⟩
  rw [hwn] at HBS hHeld
  rw [hwn]
  clear hwn
  refine wpAnyH_take (i := 0) (v := ?_) (op_of rfl) (by kernel_rfl) (by kernel_rfl) (by kernel_rfl) (fun _ _ _ => hP _ _ _ _ _) (Or.inl ⟨by rfl, fun W hS => ?_⟩) (by assumption) ?_
  rotate_left
  · dsimp only at hS
    go_simp
    try with_reducible rfl
  try dsimp only [Act.put]
  try simp only [List.setIfInBounds_toArray, List.set_cons_zero, List.set_cons_succ]
  refine wpAnyH_take (i := 1) (v := ?_) (op_of rfl) (by kernel_rfl) (by kernel_rfl) (by kernel_rfl) (fun _ _ _ => hP _ _ _ _ _) (Or.inl ⟨by rfl, fun W hS => ?_⟩) (by assumption) ?_
  rotate_left
  · dsimp only at hS
    have z0 := (hS.cell (World.block_lt_of_cell? _ _ y0)).trans y0
    go_simp
    try with_reducible rfl
  try dsimp only [Act.put]
  try simp only [List.setIfInBounds_toArray, List.set_cons_zero, List.set_cons_succ]
  refine wpAnyH_take (i := 2) (v := ?_) (op_of rfl) (by kernel_rfl) (by kernel_rfl) (by kernel_rfl) (fun _ _ _ => hP _ _ _ _ _) (Or.inl ⟨by rfl, fun W hS => ?_⟩) (by assumption) ?_
  rotate_left
  · dsimp only at hS
    go_simp
    try with_reducible rfl
  try dsimp only [Act.put]
  try simp only [List.setIfInBounds_toArray, List.set_cons_zero, List.set_cons_succ]
  refine wpAnyH_take (i := 3) (v := ?_) (op_of rfl) (by kernel_rfl) (by kernel_rfl) (by kernel_rfl) (fun _ _ _ => hP _ _ _ _ _) (Or.inl ⟨by rfl, fun W hS => ?_⟩) (by assumption) ?_
  rotate_left
  · dsimp only at hS
    go_simp
    try with_reducible rfl
  try dsimp only [Act.put]
  try simp only [List.setIfInBounds_toArray, List.set_cons_zero, List.set_cons_succ]
  refine wpAnyH_take (i := 5) (v := ?_) (op_of rfl) (by kernel_rfl) (by kernel_rfl) (by kernel_rfl) (fun _ _ _ => hP _ _ _ _ _) (Or.inl ⟨by rfl, fun W hS => ?_⟩) (by assumption) ?_
  rotate_left
  · dsimp only at hS
    go_simp
    try with_reducible rfl
  try dsimp only [Act.put]
  try simp only [List.setIfInBounds_toArray, List.set_cons_zero, List.set_cons_succ]
  refine wpAnyH_take (i := 6) (v := ?_) (op_of rfl) (by kernel_rfl) (by kernel_rfl) (by kernel_rfl) (fun _ _ _ => hP _ _ _ _ _) (Or.inl ⟨by rfl, fun W hS => ?_⟩) (by assumption) ?_
  rotate_left
  · dsimp only at hS
    go_simp
    try with_reducible rfl
  try dsimp only [Act.put]
  try simp only [List.setIfInBounds_toArray, List.set_cons_zero, List.set_cons_succ]
  refine wpAnyH_take (i := 7) (v := ?_) (op_of rfl) (by kernel_rfl) (by kernel_rfl) (by kernel_rfl) (fun _ _ _ => hP _ _ _ _ _) (Or.inl ⟨by rfl, fun W hS => ?_⟩) (by assumption) ?_
  rotate_left
  · dsimp only at hS
    go_simp
    try with_reducible rfl
  try dsimp only [Act.put]
  try simp only [List.setIfInBounds_toArray, List.set_cons_zero, List.set_cons_succ]
  refine wpAnyH_take (i := 8) (v := ?_) (op_of rfl) (by kernel_rfl) (by kernel_rfl) (by kernel_rfl) (fun _ _ _ => hP _ _ _ _ _) (Or.inl ⟨by rfl, fun W hS => ?_⟩) (by assumption) ?_
  rotate_left
  · dsimp only at hS
    have z0 := (hS.cell (World.block_lt_of_cell? _ _ y1)).trans y1
    go_simp
    try with_reducible rfl
  try dsimp only [Act.put]
  try simp only [List.setIfInBounds_toArray, List.set_cons_zero, List.set_cons_succ]
  refine wpAnyH_take (i := 10) (v := ?_) (op_of rfl) (by kernel_rfl) (by kernel_rfl) (by kernel_rfl) (fun _ _ _ => hP _ _ _ _ _) (Or.inl ⟨by rfl, fun W hS => ?_⟩) (by assumption) ?_
  rotate_left
  · dsimp only at hS
    go_simp
    try with_reducible rfl
  try dsimp only [Act.put]
  try simp only [List.setIfInBounds_toArray, List.set_cons_zero, List.set_cons_succ]
  refine wpAnyH_take (i := 11) (v := ?_) (op_of rfl) (by kernel_rfl) (by kernel_rfl) (by kernel_rfl) (fun _ _ _ => hP _ _ _ _ _) (Or.inl ⟨by rfl, fun W hS => ?_⟩) (by assumption) ?_
  rotate_left
  · dsimp only at hS
    go_simp
    try with_reducible rfl
  try dsimp only [Act.put]
  try simp only [List.setIfInBounds_toArray, List.set_cons_zero, List.set_cons_succ]
  refine wpAnyH_take (i := 12) (v := ?_) (op_of rfl) (by kernel_rfl) (by kernel_rfl) (by kernel_rfl) (fun _ _ _ => hP _ _ _ _ _) (Or.inl ⟨by rfl, fun W hS => ?_⟩) (by assumption) ?_
  rotate_left
  · dsimp only at hS
    go_simp
    try with_reducible rfl
  try dsimp only [Act.put]
  try simp only [List.setIfInBounds_toArray, List.set_cons_zero, List.set_cons_succ]
  refine wpAnyH_ready (rs := [4]) (by kernel_rfl) (by simp) (AllReadyH.cons (op_of rfl) (fun K hK => ?_) AllReadyH.nil)
  go_simp
  refine (HCT.out wn HBS.out).mono ?_
  rintro en wn ⟨v5, rfl, hn5, hb⟩
  have HBS := Lib.hid (HBS.out.trans (hb.mono HBS.out.size))
  have HN5 := Lib.hid hn5
  clear hb hn5
  refine hK.out _ _ HBS.out (fun hHeld => ?_)
  clear hK K
  try dsimp only [Act.put]
  try simp only [List.setIfInBounds_toArray, List.set_cons_zero, List.set_cons_succ]
  refine wpAnyH_ready (rs := [9]) (by kernel_rfl) (by simp) (AllReadyH.cons (op_of rfl) (fun K hK => ?_) AllReadyH.nil)
  go_simp
  refine (HOY.out wn).mono ?_
  rintro en wn ⟨v6, rfl, hn6, hb⟩
  have HBS := Lib.hid (HBS.out.trans (hb.mono HBS.out.size))
  have HN5 := Lib.hid (HN5.out.below hb)
  have HN6 := Lib.hid hn6
  clear hb hn6
  refine hK.out _ _ HBS.out (fun hHeld => ?_)
  clear hK K
  try dsimp only [Act.put]
  try simp only [List.setIfInBounds_toArray, List.set_cons_zero, List.set_cons_succ]
  refine wpAnyH_ready (rs := [13]) (by kernel_rfl) (by simp) (AllReadyH.cons (op_of rfl) (fun K hK => ?_) AllReadyH.nil)
  go_simp
  refine (HOM.out wn).mono ?_
  rintro en wn ⟨v7, rfl, hn7, hb⟩
  have HBS := Lib.hid (HBS.out.trans (hb.mono HBS.out.size))
  have HN5 := Lib.hid (HN5.out.below hb)
  have HN6 := Lib.hid (HN6.out.below hb)
  have HN7 := Lib.hid hn7
  clear hb hn7
  refine hK.out _ _ HBS.out (fun hHeld => ?_)
  clear hK K
  try dsimp only [Act.put]
  try simp only [List.setIfInBounds_toArray, List.set_cons_zero, List.set_cons_succ]
  refine wpAnyH_ready (rs := [14]) (by kernel_rfl) (by simp) (AllReadyH.cons (op_of rfl) (fun K hK => ?_) AllReadyH.nil)
  go_simp
  refine (mul_num (j := 100) (k := 100) _ _ y m _ _ wn HN6.out HN7.out HPX.out.1 HPX.out.2.1).mono ?_
  rintro en wn ⟨v8, rfl, hn8, hb⟩
  have HBS := Lib.hid (HBS.out.trans (hb.mono HBS.out.size))
  have HN5 := Lib.hid (HN5.out.below hb)
  have HN8 := Lib.hid hn8
  clear hb hn8
  refine hK.out _ _ HBS.out (fun hHeld => ?_)
  clear hK K
  try dsimp only [Act.put]
  try simp only [List.setIfInBounds_toArray, List.set_cons_zero, List.set_cons_succ]
  refine wpAnyH_ready (rs := [15]) (by kernel_rfl) (by simp) (AllReadyH.cons (op_of rfl) (fun K hK => ?_) AllReadyH.nil)
  go_simp
  refine (cmp_same (j := 100) _ _ _ _ _ _ wn HN5.out HN8.out HPX.out.2.2.1 HEQ.out).mono ?_
  rintro en wn ⟨rfl, hb⟩
  have HBS := Lib.hid (HBS.out.trans (hb.mono HBS.out.size))
  clear hb
  refine hK.out _ _ HBS.out (fun hHeld => ?_)
  clear hK K
  try dsimp only [Act.put]
  try simp only [List.setIfInBounds_toArray, List.set_cons_zero, List.set_cons_succ]
  refine wpAnyH_take (i := 16) (v := ?_) (op_of rfl) (by kernel_rfl) (by kernel_rfl) (by kernel_rfl) (fun _ _ _ => hP _ _ _ _ _) (Or.inl ⟨by rfl, fun W hS => ?_⟩) (by assumption) ?_
  rotate_left
  · dsimp only at hS
    go_simp
    try with_reducible rfl
  try dsimp only [Act.put]
  try simp only [List.setIfInBounds_toArray, List.set_cons_zero, List.set_cons_succ]
  refine wpAnyH_ready (rs := [17]) (by kernel_rfl) (by simp) (AllReadyH.cons (op_of rfl) (fun K hK => ?_) AllReadyH.nil)
  go_simp
  refine hK.out _ _ HBS.out (fun hHeld => ?_)
  clear hK K
  try dsimp only [Act.put]
  try simp only [List.setIfInBounds_toArray, List.set_cons_zero, List.set_cons_succ]
  refine wpAnyH_done (by kernel_rfl) ?_ _
  exact hQ _ _ _ _ _ _ _ _ _ _ _ _ _ _ _ _ _ _ HBS.out

set_option maxHeartbeats 16000000 in
theorem reg26n_r (HCT : Hid (∀ W, Below wc.heap.size wc W → Calls Try.prog 15 #[.int .u64 (t : Int), .slice A2 n c2, .int .i64 (k : Int)] W (RetNum W q))) (HOY : Hid (∀ W, Calls Try.prog 10 #[.int .u64 (y : Int)] W (RetNum W y))) (HOM : Hid (∀ W, Calls Try.prog 10 #[.int .u64 (m : Int)] W (RetNum W m))) (HPX : Hid (y < 65536 ^ 100 ∧ m < 65536 ^ 100 ∧ y * m < 65536 ^ 100 ∧ q < 65536 ^ 100)) (hwm : IntKind.u64.wrap (m : Int) = (m : Int)) (hk : k < m) (y0 : wc.cell? ⟨b0, 0, none⟩ = some (.int .u64 (t : Int))) (y1 : wc.cell? ⟨a2, p + k, none⟩ = some (.int .u64 (y : Int))) (HEQ : Hid (¬ q = y * m))
    (hP : ∀ c a d v w, Q (.panic c) (Act.put a (some d) v) w → Q (.panic c) a w)
    (hQ : ∀ (x196 x197 x198 x199 x200 x201 x202 x203 x204 x205 x206 x207 x208 x209 x210 x211 x212 : Value) (wn : World), Below wc.heap.size wc wn → Q .normal { tmps := #[t0, t1, t2, .slice (some ⟨a2, p, none⟩) m d, .pointer (some ⟨b0, 0, none⟩), t5, t6, t7, t8, .slice A2 n c2, t10, t11, t12, t13, t14, t15, t16, t17, t18, t19, t20, t21, t22, .bool false, .int .i64 (k : Int), t25, t26, t27, t28, t29, t30, t31, t32, t33, t34, t35, t36, t37, t38, t39, t40, t41, t42, t43, t44, t45, t46, t47, t48, t49, t50, t51, t52, t53, t54, t55, t56, t57, t58, t59, t60, t61, t62, t63, t64, t65, t66, t67, t68, t69, t70, t71, t72, t73, t74, t75, t76, t77, t78, t79, t80, t81, t82, t83, t84, t85, t86, t87, t88, t89, t90, t91, t92, t93, t94, t95, t96, t97, t98, t99, t100, t101, t102, t103, t104, t105, t106, t107, t108, t109, t110, t111, t112, t113, t114, t115, t116, t117, t118, t119, t120, t121, t122, t123, t124, t125, t126, t127, t128, t129, t130, t131, t132, t133, t134, t135, t136, t137, t138, t139, t140, t141, t142, t143, t144, t145, t146, t147, t148, t149, t150, t151, t152, t153, t154, t155, t156, t157, t158, t159, t160, t161, t162, t163, t164, t165, t166, t167, t168, t169, t170, t171, t172, t173, t174, t175, t176, t177, t178, t179, t180, t181, t182, t183, t184, t185, t186, t187, t188, t189, t190, t191, t192, t193, t194, t195, x196, x197, x198, x199, x200, x201, x202, x203, x204, x205, x206, x207, x208, x209, x210, x211, x212, t213, t214, t215, t216, t217, t218, t219, t220], defers := [] } wn) :
    (Code.region 26 ops26 true).wp Try.prog Q { tmps := #[t0, t1, t2, .slice (some ⟨a2, p, none⟩) m d, .pointer (some ⟨b0, 0, none⟩), t5, t6, t7, t8, .slice A2 n c2, t10, t11, t12, t13, t14, t15, t16, t17, t18, t19, t20, t21, t22, .bool true, .int .i64 (k : Int), t25, t26, t27, t28, t29, t30, t31, t32, t33, t34, t35, t36, t37, t38, t39, t40, t41, t42, t43, t44, t45, t46, t47, t48, t49, t50, t51, t52, t53, t54, t55, t56, t57, t58, t59, t60, t61, t62, t63, t64, t65, t66, t67, t68, t69, t70, t71, t72, t73, t74, t75, t76, t77, t78, t79, t80, t81, t82, t83, t84, t85, t86, t87, t88, t89, t90, t91, t92, t93, t94, t95, t96, t97, t98, t99, t100, t101, t102, t103, t104, t105, t106, t107, t108, t109, t110, t111, t112, t113, t114, t115, t116, t117, t118, t119, t120, t121, t122, t123, t124, t125, t126, t127, t128, t129, t130, t131, t132, t133, t134, t135, t136, t137, t138, t139, t140, t141, t142, t143, t144, t145, t146, t147, t148, t149, t150, t151, t152, t153, t154, t155, t156, t157, t158, t159, t160, t161, t162, t163, t164, t165, t166, t167, t168, t169, t170, t171, t172, t173, t174, t175, t176, t177, t178, t179, t180, t181, t182, t183, t184, t185, t186, t187, t188, t189, t190, t191, t192, t193, t194, t195, t196, t197, t198, t199, t200, t201, t202, t203, t204, t205, t206, t207, t208, t209, t210, t211, t212, t213, t214, t215, t216, t217, t218, t219, t220], defers := [] } wc := by
  have i0 : (0 : Int) ≤ (k : Int) := by omega
  have i1 : (k : Int) < (m : Int) := by omega
  clear hk
  have HCM : Hid (∀ W v1 v2 L1 L2, Num W L1 v1 q → Num W L2 v2 (y * m) → Calls Try.prog 14 #[v1, v2] W fun e w' => e = .returned (.int .i64 (cmpI q (y * m))) ∧ Below W.heap.size W w') := Lib.hid (fun W v1 v2 L1 L2 h1 h2 => cmp_num (j := 100) (k := 100) v1 v2 q (y * m) L1 L2 W h1 h2 HPX.out.2.2.2 HPX.out.2.2.1)
  obtain ⟨z, hz⟩ : ∃ z, cmpI q (y * m) = z := ⟨_, rfl⟩
  rw [hz] at HCM
  have hz0 : ¬ z = 0 := by rw [← hz]; have := HEQ.out; unfold cmpI; split <;> (try split) <;> omega
  have hz1 : (z == 0) = false := by simp [hz0]
  clear hz
  have hst : Below wc.heap.size wc wc.drew := (Below.refl _ _).drew
  have HBS := Lib.hid hst
  refine wp_region_held_drew (S := fun W => Below wc.heap.size wc W) (by kernel_rfl) hst (fun hHeld => ?_)
  change wpAnyH _ _ ops26 _ _ 18 #[false, false, false, false, false, false, false, false, false, false, false, false, false, false, false, false, false, false] _ _
  obtain ⟨wn, hwn⟩ : ∃ W, wc.drew = W := ⟨_, rfl⟩
  rw [hwn] at HBS hHeld
  rw [hwn]
  clear hwn
  refine wpAnyH_take (i := 0) (v := ?_) (op_of rfl) (by kernel_rfl) (by kernel_rfl) (by kernel_rfl) (fun _ _ _ => hP _ _ _ _ _) (Or.inl ⟨by rfl, fun W hS => ?_⟩) (by assumption) ?_
  rotate_left
  · dsimp only at hS
    go_simp
    try with_reducible rfl
  try dsimp only [Act.put]
  try simp only [List.setIfInBounds_toArray, List.set_cons_zero, List.set_cons_succ]
  refine wpAnyH_take (i := 1) (v := ?_) (op_of rfl) (by kernel_rfl) (by kernel_rfl) (by kernel_rfl) (fun _ _ _ => hP _ _ _ _ _) (Or.inl ⟨by rfl, fun W hS => ?_⟩) (by assumption) ?_
  rotate_left
  · dsimp only at hS
    have z0 := (hS.cell (World.block_lt_of_cell? _ _ y0)).trans y0
    go_simp
    try with_reducible rfl
  try dsimp only [Act.put]
  try simp only [List.setIfInBounds_toArray, List.set_cons_zero, List.set_cons_succ]
  refine wpAnyH_take (i := 2) (v := ?_) (op_of rfl) (by kernel_rfl) (by kernel_rfl) (by kernel_rfl) (fun _ _ _ => hP _ _ _ _ _) (Or.inl ⟨by rfl, fun W hS => ?_⟩) (by assumption) ?_
  rotate_left
  · dsimp only at hS
    go_simp
    try with_reducible rfl
  try dsimp only [Act.put]
  try simp only [List.setIfInBounds_toArray, List.set_cons_zero, List.set_cons_succ]
  refine wpAnyH_take (i := 3) (v := ?_) (op_of rfl) (by kernel_rfl) (by kernel_rfl) (by kernel_rfl) (fun _ _ _ => hP _ _ _ _ _) (Or.inl ⟨by rfl, fun W hS => ?_⟩) (by assumption) ?_
  rotate_left
  · dsimp only at hS
    go_simp
    try with_reducible rfl
  try dsimp only [Act.put]
  try simp only [List.setIfInBounds_toArray, List.set_cons_zero, List.set_cons_succ]
  refine wpAnyH_take (i := 5) (v := ?_) (op_of rfl) (by kernel_rfl) (by kernel_rfl) (by kernel_rfl) (fun _ _ _ => hP _ _ _ _ _) (Or.inl ⟨by rfl, fun W hS => ?_⟩) (by assumption) ?_
  rotate_left
  · dsimp only at hS
    go_simp
    try with_reducible rfl
  try dsimp only [Act.put]
  try simp only [List.setIfInBounds_toArray, List.set_cons_zero, List.set_cons_succ]
  refine wpAnyH_take (i := 6) (v := ?_) (op_of rfl) (by kernel_rfl) (by kernel_rfl) (by kernel_rfl) (fun _ _ _ => hP _ _ _ _ _) (Or.inl ⟨by rfl, fun W hS => ?_⟩) (by assumption) ?_
  rotate_left
  · dsimp only at hS
    go_simp
    try with_reducible rfl
  try dsimp only [Act.put]
  try simp only [List.setIfInBounds_toArray, List.set_cons_zero, List.set_cons_succ]
  refine wpAnyH_take (i := 7) (v := ?_) (op_of rfl) (by kernel_rfl) (by kernel_rfl) (by kernel_rfl) (fun _ _ _ => hP _ _ _ _ _) (Or.inl ⟨by rfl, fun W hS => ?_⟩) (by assumption) ?_
  rotate_left
  · dsimp only at hS
    go_simp
    try with_reducible rfl
  try dsimp only [Act.put]
  try simp only [List.setIfInBounds_toArray, List.set_cons_zero, List.set_cons_succ]
  refine wpAnyH_take (i := 8) (v := ?_) (op_of rfl) (by kernel_rfl) (by kernel_rfl) (by kernel_rfl) (fun _ _ _ => hP _ _ _ _ _) (Or.inl ⟨by rfl, fun W hS => ?_⟩) (by assumption) ?_
  rotate_left
  · dsimp only at hS
    have z0 := (hS.cell (World.block_lt_of_cell? _ _ y1)).trans y1
    go_simp
    try with_reducible rfl
  try dsimp only [Act.put]
  try simp only [List.setIfInBounds_toArray, List.set_cons_zero, List.set_cons_succ]
  refine wpAnyH_take (i := 10) (v := ?_) (op_of rfl) (by kernel_rfl) (by kernel_rfl) (by kernel_rfl) (fun _ _ _ => hP _ _ _ _ _) (Or.inl ⟨by rfl, fun W hS => ?_⟩) (by assumption) ?_
  rotate_left
  · dsimp only at hS
    go_simp
    try with_reducible rfl
  try dsimp only [Act.put]
  try simp only [List.setIfInBounds_toArray, List.set_cons_zero, List.set_cons_succ]
  refine wpAnyH_take (i := 11) (v := ?_) (op_of rfl) (by kernel_rfl) (by kernel_rfl) (by kernel_rfl) (fun _ _ _ => hP _ _ _ _ _) (Or.inl ⟨by rfl, fun W hS => ?_⟩) (by assumption) ?_
  rotate_left
  · dsimp only at hS
    go_simp
    try with_reducible rfl
  try dsimp only [Act.put]
  try simp only [List.setIfInBounds_toArray, List.set_cons_zero, List.set_cons_succ]
  refine wpAnyH_take (i := 12) (v := ?_) (op_of rfl) (by kernel_rfl) (by kernel_rfl) (by kernel_rfl) (fun _ _ _ => hP _ _ _ _ _) (Or.inl ⟨by rfl, fun W hS => ?_⟩) (by assumption) ?_
  rotate_left
  · dsimp only at hS
    go_simp
    try with_reducible rfl
  try dsimp only [Act.put]
  try simp only [List.setIfInBounds_toArray, List.set_cons_zero, List.set_cons_succ]
  refine wpAnyH_ready (rs := [4]) (by kernel_rfl) (by simp) (AllReadyH.cons (op_of rfl) (fun K hK => ?_) AllReadyH.nil)
  go_simp
  refine (HCT.out wn HBS.out).mono ?_
  rintro en wn ⟨v5, rfl, hn5, hb⟩
  have HBS := Lib.hid (HBS.out.trans (hb.mono HBS.out.size))
  have HN5 := Lib.hid hn5
  clear hb hn5
  refine hK.out _ _ HBS.out (fun hHeld => ?_)
  clear hK K
  try dsimp only [Act.put]
  try simp only [List.setIfInBounds_toArray, List.set_cons_zero, List.set_cons_succ]
  refine wpAnyH_ready (rs := [9]) (by kernel_rfl) (by simp) (AllReadyH.cons (op_of rfl) (fun K hK => ?_) AllReadyH.nil)
  go_simp
  refine (HOY.out wn).mono ?_
  rintro en wn ⟨v6, rfl, hn6, hb⟩
  have HBS := Lib.hid (HBS.out.trans (hb.mono HBS.out.size))
  have HN5 := Lib.hid (HN5.out.below hb)
  have HN6 := Lib.hid hn6
  clear hb hn6
  refine hK.out _ _ HBS.out (fun hHeld => ?_)
  clear hK K
  try dsimp only [Act.put]
  try simp only [List.setIfInBounds_toArray, List.set_cons_zero, List.set_cons_succ]
  refine wpAnyH_ready (rs := [13]) (by kernel_rfl) (by simp) (AllReadyH.cons (op_of rfl) (fun K hK => ?_) AllReadyH.nil)
  go_simp
  refine (HOM.out wn).mono ?_
  rintro en wn ⟨v7, rfl, hn7, hb⟩
  have HBS := Lib.hid (HBS.out.trans (hb.mono HBS.out.size))
  have HN5 := Lib.hid (HN5.out.below hb)
  have HN6 := Lib.hid (HN6.out.below hb)
  have HN7 := Lib.hid hn7
  clear hb hn7
  refine hK.out _ _ HBS.out (fun hHeld => ?_)
  clear hK K
  try dsimp only [Act.put]
  try simp only [List.setIfInBounds_toArray, List.set_cons_zero, List.set_cons_succ]
  refine wpAnyH_ready (rs := [14]) (by kernel_rfl) (by simp) (AllReadyH.cons (op_of rfl) (fun K hK => ?_) AllReadyH.nil)
  go_simp
  refine (mul_num (j := 100) (k := 100) _ _ y m _ _ wn HN6.out HN7.out HPX.out.1 HPX.out.2.1).mono ?_
  rintro en wn ⟨v8, rfl, hn8, hb⟩
  have HBS := Lib.hid (HBS.out.trans (hb.mono HBS.out.size))
  have HN5 := Lib.hid (HN5.out.below hb)
  have HN8 := Lib.hid hn8
  clear hb hn8
  refine hK.out _ _ HBS.out (fun hHeld => ?_)
  clear hK K
  try dsimp only [Act.put]
  try simp only [List.setIfInBounds_toArray, List.set_cons_zero, List.set_cons_succ]
  refine wpAnyH_ready (rs := [15]) (by kernel_rfl) (by simp) (AllReadyH.cons (op_of rfl) (fun K hK => ?_) AllReadyH.nil)
  go_simp
  refine (HCM.out wn _ _ _ _ HN5.out HN8.out).mono ?_
  rintro en wn ⟨rfl, hb⟩
  have HBS := Lib.hid (HBS.out.trans (hb.mono HBS.out.size))
  clear hb
  refine hK.out _ _ HBS.out (fun hHeld => ?_)
  clear hK K
  try dsimp only [Act.put]
  try simp only [List.setIfInBounds_toArray, List.set_cons_zero, List.set_cons_succ]
  refine wpAnyH_take (i := 16) (v := ?_) (op_of rfl) (by kernel_rfl) (by kernel_rfl) (by kernel_rfl) (fun _ _ _ => hP _ _ _ _ _) (Or.inl ⟨by rfl, fun W hS => ?_⟩) (by assumption) ?_
  rotate_left
  · dsimp only at hS
    go_simp
    try with_reducible rfl
  try dsimp only [Act.put]
  try simp only [List.setIfInBounds_toArray, List.set_cons_zero, List.set_cons_succ]
  refine wpAnyH_ready (rs := [17]) (by kernel_rfl) (by simp) (AllReadyH.cons (op_of rfl) (fun K hK => ?_) AllReadyH.nil)
  go_simp
  refine hK.out _ _ HBS.out (fun hHeld => ?_)
  clear hK K
  try dsimp only [Act.put]
  try simp only [List.setIfInBounds_toArray, List.set_cons_zero, List.set_cons_succ]
  refine wpAnyH_done (by kernel_rfl) ?_ _
  exact hQ _ _ _ _ _ _ _ _ _ _ _ _ _ _ _ _ _ _ HBS.out

end
end Go.Proofs.Ytcanahjilfnijaa
