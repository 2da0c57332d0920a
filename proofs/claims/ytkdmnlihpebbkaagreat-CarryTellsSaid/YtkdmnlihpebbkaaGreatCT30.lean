/-
  For any state that may be, whose tickets are few enough for the document's answer, and any number: what each thread carries, what the thread of that number does, and who can go on, is the document's. No conditions.
-/
import Derived.Test.YtkdmnlihpebbkaaGreatCT29
import Derived.ChangeMaps5
import Derived.Test.YtkdmnlihpebbkaaGreatChecked
import Derived.Deep.Slices
import Derived.Deep.Strs
set_option linter.all false
set_option maxHeartbeats 16000000
namespace Go.Proofs.YtkdmnlihpebbkaaGreat
section
open Go.RowKit
set_option maxRecDepth 100000
structure Lr18 (w:World) (S:Sv14) (A0 A1 A2 A3 A4:Option Addr) (n0 n1 n2 n3 n4 c0 c1 c2 c3 c4:Nat) (sq:Int) (w0:World) (A:Option Addr) (k c:Nat) (x:Nat->Rat) (W:World):Prop where
 b:By16 w S A0 A1 A2 A3 A4 n0 n1 n2 n3 n4 c0 c1 c2 c3 c4 sq W
 z:Below w0.heap.size w0 W
 q:QRow W w0.heap.size (.slice A k c) k (fun j => (qr18 (x j)).1) (fun j => (qr18 (x j)).2)
 h:w.heap.size < w0.heap.size
theorem Lr18.start {w:World} {S:Sv14} {A0 A1 A2 A3 A4:Option Addr} {n0 n1 n2 n3 n4 c0 c1 c2 c3 c4:Nat} {sq:Int} {w0:World} (x:Nat->Rat) (h:By16 w S A0 A1 A2 A3 A4 n0 n1 n2 n3 n4 c0 c1 c2 c3 c4 sq w0):Lr18 w S A0 A1 A2 A3 A4 n0 n1 n2 n3 n4 c0 c1 c2 c3 c4 sq w0 none 0 0 x w0:=⟨h,Below.refl _ _,QRow.nil _ _ _ _,h.b.x.lt⟩
theorem Lr18.push {w:World} {S:Sv14} {A0 A1 A2 A3 A4:Option Addr} {n0 n1 n2 n3 n4 c0 c1 c2 c3 c4:Nat} {sq:Int} {w0:World} {A:Option Addr} {k c:Nat} {x:Nat->Rat} {W0 W1:World} (h:Lr18 w S A0 A1 A2 A3 A4 n0 n1 n2 n3 n4 c0 c1 c2 c3 c4 sq w0 A k c x W0) (hb:Below W0.heap.size W0 W1) {D1:Option Addr} {i1 t1:Nat} {D2:Option Addr} {i2 t2:Nat} (hn:Qn18 W1 W0.heap.size (x k) D1 i1 t1 D2 i2 t2) (hk:k<=5000) :
  ∃ A' c' W3,(Builtin.append_ #[31,31] 31 #[.slice A k c,.slice (some ⟨W1.heap.size,0,none⟩) 1 1]).run Tryz.prog (W1.alloc (.cells #[.slice D1 i1 t1,.slice D2 i2 t2] 35)) = .ok (.slice A' (k + 1) c') W3/\Lr18 w S A0 A1 A2 A3 A4 n0 n1 n2 n3 n4 c0 c1 c2 c3 c4 sq w0 A' (k + 1) c' x W3:=by
 obtain ⟨cs,q1,q2⟩:=h.q;have ha:=b1' W1 (.cells #[.slice D1 i1 t1,.slice D2 i2 t2] 35);have hk2:=Blk.new W1 35 #[.slice D1 i1 t1,.slice D2 i2 t2];have o2:=own_keep2 (own_keep2 q1 hb) ha;obtain ⟨W2,hW2⟩:=exq (W1.alloc (.cells #[.slice D1 i1 t1,.slice D2 i2 t2] 35));rw [hW2] at ha hk2 o2 ⊢;obtain ⟨i,hi,hzz⟩:=Option.map_eq_some_iff.1 info_Q
 simp only [Prod.mk.injEq] at hzz;obtain ⟨hz,hs,hby⟩:=hzz;have hle:w0.heap.size<=W2.heap.size:=Nat.le_trans h.z.size (Nat.le_trans hb.size ha.size)
 obtain ⟨v',W3,hrun,hown,hg,_,hat⟩:=run_append_own_at (P:=Tryz.prog) W2 w0.heap.size 31 31 35 i _ 2 48 Tryz.underlying31 hi hz hs hby rfl (by omega) _ k cs o2 ⟨W1.heap.size,0,none⟩ 1 1 [.slice D1 i1 t1,.slice D2 i2 t2] rfl (fun j u hj => by
  match j,hj with
  | 0,hj =>
   obtain rfl:_ = u:=by simpa using hj
   exact hk2.cell 0
  | 1,hj =>
   obtain rfl:_ = u:=by simpa using hj
   exact hk2.cell 1
  | j + 2,hj => simp at hj) (by simp [Value.oneCell']) (by unfold maxLen; omega) (by omega) hle
 have hlt:=q1.lt;have h32:Below w0.heap.size W2 W3:=(Below.refl _ _).grown hg hle (fun r hr => (hlt r hr).1);have h30:Below w0.heap.size W0 W3:=((hb.trans (ha.mono hb.size)).mono h.z.size).trans h32;have hpush:=QRow.push q1 q2 hb hn.1.choose_spec.2 hn.1.choose_spec.1 hn.2.choose_spec.2 hn.2.choose_spec.1 hW2 hg hown hat
 rcases hown.2 with ⟨_,h0⟩ | ⟨g,cap,cur,hv,_⟩
 · omega
 ·
  subst hv;exact ⟨_,_,W3,hrun,⟨h.b.low (h30.mono (by have:=h.h; omega)),h.z.trans h30,hpush,h.h⟩⟩
structure Ly18 (w:World) (S:Sv14) (A0 A1 A2 A3 A4:Option Addr) (n0 n1 n2 n3 n4 c0 c1 c2 c3 c4:Nat) (sq:Int) (w3:World) (W:World):Prop where
 b:By16 w S A0 A1 A2 A3 A4 n0 n1 n2 n3 n4 c0 c1 c2 c3 c4 sq W
 z:Below w3.heap.size w3 W
theorem Ly18.step {w:World} {S:Sv14} {A0 A1 A2 A3 A4:Option Addr} {n0 n1 n2 n3 n4 c0 c1 c2 c3 c4:Nat} {sq:Int} {w3:World} {W W':World} (h:Ly18 w S A0 A1 A2 A3 A4 n0 n1 n2 n3 n4 c0 c1 c2 c3 c4 sq w3 W) (hb:Below W.heap.size W W'):Ly18 w S A0 A1 A2 A3 A4 n0 n1 n2 n3 n4 c0 c1 c2 c3 c4 sq w3 W':=⟨h.b.step hb,h.z.trans (hb.mono h.z.size)⟩
theorem cytells19_no1 (A0 A1 A2 A3 A4:Option Addr) (n0 n1 n2 n3 n4 c0 c1 c2 c3 c4:Nat) (sq:Int) (i:Int) (S:Sv14) (w:World) (hn:¬ Small14 n0 n1 n2 n3 n4) :
  Calls Tryz.prog 3 #[(.agg #[.slice A0 n0 c0,.slice A1 n1 c1,.slice A2 n2 c2,.slice A3 n3 c3,.slice A4 n4 c4,.int .i64 sq]),.int .i64 i] w fun e w' => e = .returned (.bool true)/\Below w.heap.size w w':=by
 have hb0:=b1' w (.cells #[.slice A0 n0 c0,.slice A1 n1 c1,.slice A2 n2 c2,.slice A3 n3 c3,.slice A4 n4 c4,.int .i64 sq] 28);have hk0:=Blk.new w 28 #[.slice A0 n0 c0,.slice A1 n1 c1,.slice A2 n2 c2,.slice A3 n3 c3,.slice A4 n4 c4,.int .i64 sq]
 obtain ⟨W0,hW0⟩:=exq (w.alloc (.cells #[.slice A0 n0 c0,.slice A1 n1 c1,.slice A2 n2 c2,.slice A3 n3 c3,.slice A4 n4 c4,.int .i64 sq] 28));rw [hW0] at hb0 hk0;obtain ⟨p0,p1,p2,p3,p4,p5⟩:=ce6 hk0;have HB0:=qz hb0;have HC:=qz (fun W => small14 A0 A1 A2 A3 A4 n0 n1 n2 n3 n4 c0 c1 c2 c3 c4 sq false W (by simp [hn]));clear hb0 hk0 hn
 go_enter Tryz.func3,Tryz.ntmps3;go_wp2_with fail;refine (HC.out _).mono ?_;rintro e u1 ⟨rfl,hb1⟩;have HB1:=qz (HB0.out.trans (hb1.mono HB0.out.size));clear hb1 HC;go_wp2_with fail;refine (alive19_any _).mono ?_;rintro e u2 ⟨rfl,hb2⟩;have HB2:=qz (HB1.out.trans (hb2.mono HB1.out.size));clear hb2;go_wp2_with fail;go_ret;exact ⟨rfl,HB2.out⟩
theorem cytells19_no2 (A0 A1 A2 A3 A4:Option Addr) (n0 n1 n2 n3 n4 c0 c1 c2 c3 c4:Nat) (sq:Int) (i:Int) (S:Sv14) (w:World) (hs:SA14 w S A0 A1 A2 A3 A4 n0 n1 n2 n3 n4 c0 c1 c2 c3 c4 sq) (hn:Small14 n0 n1 n2 n3 n4) (hg:light17 S = false) :
  Calls Tryz.prog 3 #[(.agg #[.slice A0 n0 c0,.slice A1 n1 c1,.slice A2 n2 c2,.slice A3 n3 c3,.slice A4 n4 c4,.int .i64 sq]),.int .i64 i] w fun e w' => e = .returned (.bool true)/\Below w.heap.size w w':=by
 have hx0:=Bx14.new hs;have hxn:=hx0.step (Below.refl _ _).drew;obtain ⟨W1,hW1⟩:=exq (w.alloc (.cells #[.slice A0 n0 c0,.slice A1 n1 c1,.slice A2 n2 c2,.slice A3 n3 c3,.slice A4 n4 c4,.int .i64 sq] 28));rw [hW1] at hx0 hxn;have HX0:=qz hx0;obtain ⟨p0,p1,p2,p3,p4,p5⟩:=ce6 hx0.x
 have HC:=qz (fun W => small14 A0 A1 A2 A3 A4 n0 n1 n2 n3 n4 c0 c1 c2 c3 c4 sq true W (by simp [hn]))
 have HD0:=qz (fun W (h:Bx14 w S A0 A1 A2 A3 A4 n0 n1 n2 n3 n4 c0 c1 c2 c3 c4 sq W) => (show Calls Tryz.prog 6 #[(.agg #[.slice A0 n0 c0,.slice A1 n1 c1,.slice A2 n2 c2,.slice A3 n3 c3,.slice A4 n4 c4,.int .i64 sq])] W fun e w' => e = .returned (.bool false)/\Below W.heap.size W w' from by have h1:=rlight17 (.agg #[.slice A0 n0 c0,.slice A1 n1 c1,.slice A2 n2 c2,.slice A3 n3 c3,.slice A4 n4 c4,.int .i64 sq]) S W h.st; rwa [hg] at h1))
 clear hs hx0 hxn hn hg;go_enter Tryz.func3,Tryz.ntmps3;go_wp2_with fail;refine (HC.out _).mono ?_;rintro e u1 ⟨rfl,hb1⟩;have HX1:=qz (HX0.out.step hb1);clear hb1 HC HX0 p0 p1 p2 p3 p4 p5;obtain ⟨q10,q11,q12,q13,q14,q15⟩:=ce6 HX1.out.x;go_wp2_with fail;refine (HD0.out _ HX1.out).mono ?_;rintro e u2 ⟨rfl,hb2⟩;have HX2:=qz (HX1.out.step hb2)
 clear hb2 HD0 HX1 q10 q11 q12 q13 q14 q15;go_wp2_with fail;refine (alive19_any _).mono ?_;rintro e u3 ⟨rfl,hb3⟩;have HX3:=qz (HX2.out.step hb3);clear hb3;go_wp2_with fail;go_ret;exact ⟨rfl,HX3.out.b⟩
theorem cytells19_no3 (A0 A1 A2 A3 A4:Option Addr) (n0 n1 n2 n3 n4 c0 c1 c2 c3 c4:Nat) (sq:Int) (i:Int) (S:Sv14) (w:World) (hs:SA14 w S A0 A1 A2 A3 A4 n0 n1 n2 n3 n4 c0 c1 c2 c3 c4 sq) (hn:Small14 n0 n1 n2 n3 n4) (hg:light17 S = true) (hf:¬ Fine14 S) :
  Calls Tryz.prog 3 #[(.agg #[.slice A0 n0 c0,.slice A1 n1 c1,.slice A2 n2 c2,.slice A3 n3 c3,.slice A4 n4 c4,.int .i64 sq]),.int .i64 i] w fun e w' => e = .returned (.bool true)/\Below w.heap.size w w':=by
 have hx0:=Bx14.new hs;have hxn:=hx0.step (Below.refl _ _).drew;obtain ⟨W1,hW1⟩:=exq (w.alloc (.cells #[.slice A0 n0 c0,.slice A1 n1 c1,.slice A2 n2 c2,.slice A3 n3 c3,.slice A4 n4 c4,.int .i64 sq] 28));rw [hW1] at hx0 hxn;have HX0:=qz hx0;obtain ⟨p0,p1,p2,p3,p4,p5⟩:=ce6 hx0.x
 have HC:=qz (fun W => small14 A0 A1 A2 A3 A4 n0 n1 n2 n3 n4 c0 c1 c2 c3 c4 sq true W (by simp [hn]))
 have HD0:=qz (fun W (h:Bx14 w S A0 A1 A2 A3 A4 n0 n1 n2 n3 n4 c0 c1 c2 c3 c4 sq W) => (show Calls Tryz.prog 6 #[(.agg #[.slice A0 n0 c0,.slice A1 n1 c1,.slice A2 n2 c2,.slice A3 n3 c3,.slice A4 n4 c4,.int .i64 sq])] W fun e w' => e = .returned (.bool true)/\Below W.heap.size W w' from by have h1:=rlight17 (.agg #[.slice A0 n0 c0,.slice A1 n1 c1,.slice A2 n2 c2,.slice A3 n3 c3,.slice A4 n4 c4,.int .i64 sq]) S W h.st; rwa [hg] at h1))
 have HD1:=qz (fun W (h:Bx14 w S A0 A1 A2 A3 A4 n0 n1 n2 n3 n4 c0 c1 c2 c3 c4 sq W) => rfine14 (.agg #[.slice A0 n0 c0,.slice A1 n1 c1,.slice A2 n2 c2,.slice A3 n3 c3,.slice A4 n4 c4,.int .i64 sq]) S false W h.st (by simp [hf]));clear hs hx0 hxn hn hg hf;go_enter Tryz.func3,Tryz.ntmps3;go_wp2_with fail;refine (HC.out _).mono ?_;rintro e u1 ⟨rfl,hb1⟩
 have HX1:=qz (HX0.out.step hb1);clear hb1 HC HX0 p0 p1 p2 p3 p4 p5;obtain ⟨q10,q11,q12,q13,q14,q15⟩:=ce6 HX1.out.x;go_wp2_with fail;refine (HD0.out _ HX1.out).mono ?_;rintro e u2 ⟨rfl,hb2⟩;have HX2:=qz (HX1.out.step hb2);clear hb2 HD0 HX1 q10 q11 q12 q13 q14 q15;obtain ⟨q20,q21,q22,q23,q24,q25⟩:=ce6 HX2.out.x;go_wp2_with fail
 refine (HD1.out _ HX2.out).mono ?_;rintro e u3 ⟨rfl,hb3⟩;have HX3:=qz (HX2.out.step hb3);clear hb3 HD1 HX2 q20 q21 q22 q23 q24 q25;go_wp2_with fail;refine (alive19_any _).mono ?_;rintro e u4 ⟨rfl,hb4⟩;have HX4:=qz (HX3.out.step hb4);clear hb4;go_wp2_with fail;go_ret;exact ⟨rfl,HX4.out.b⟩
section
variable {t0 t1 t2 t3 t4 t5 t6 t7 t8 t9 t10 t11 t12 t13 t14 t15 t16 t17 t18 t19 t20 t21 t22 t23 t24 t25 t26 t27 t28 t29 t30 t31 t32 t33 t34 t35 t36 t37 t38 t39 t40 t41 t42 t43 t44 t45 t46 t47 t48 t49 t50 t51 t52 t53 t54 t55 t56 t57 t58 t59 t60 t61 t62 t63 t64 t65 t66 t67 t68:Value}
variable {Q:Exit->Act->World->Prop}
def ops19ts:{ o:Array Oper // (match Go.Func.body Tryz.f3 with | some c => regionOf17 c 11 | none => none) = some o }:=⟨_,rfl⟩
def ops19t:Array Oper:=ops19ts.1
theorem cyend19 {w wc:World} {S:Sv14} {A0 A1 A2 A3 A4:Option Addr} {n0 n1 n2 n3 n4 c0 c1 c2 c3 c4:Nat} {sq:Int} {wC wT:Nat->Rat} {i:Int} {A:Option Addr} {cc gq:Nat} {F1 F2:Option Addr} {l1 o1 l2 o2 L1 L2:Nat} (hf:Fine14 S) (hw:Wo18 S wC wT) (hb:By16 w S A0 A1 A2 A3 A4 n0 n1 n2 n3 n4 c0 c1 c2 c3 c4 sq wc)
  (hq:QIn wc A n2 (fun k => (qr18 (car19 S (th18 S wT) k)).1) (fun k => (qr18 (car19 S (th18 S wT) k)).2)) (f1:wc.cell? ⟨gq,0,none⟩ = some (.slice F1 l1 o1)) (f2:wc.cell? ⟨gq,1,none⟩ = some (.slice F2 l2 o2))
  (u1:Num wc L1 (.agg #[.slice F1 l1 o1]) (qr18 (cw19 S (th18 S wT) i)).1) (u2:Num wc L2 (.agg #[.slice F2 l2 o2]) (qr18 (cw19 S (th18 S wT) i)).2)
  (hP:∀ c a d v w,Q (.panic c) (Act.put a (some d) v) w->Q (.panic c) a w)
  (hQ:∀ (x48 x49 x50 x51 x52 x53 x54 x55 x56 x57 x58 x59 x60 x61 x62 x63 x64 x65 x66 x67 x68:Value) (wn:World),Below w.heap.size w wn->Q .normal { tmps:=#[(.agg #[.slice A0 n0 c0,.slice A1 n1 c1,.slice A2 n2 c2,.slice A3 n3 c3,.slice A4 n4 c4,.int .i64 sq]),.int .i64 i,.pointer (some ⟨w.heap.size,0,none⟩),t3,.bool true,.slice A n2 cc,t6,.pointer (some ⟨gq,0,none⟩),t8,t9,t10,t11,t12,t13,t14,t15,t16,t17,t18,t19,t20,t21,t22,t23,t24,t25,t26,t27,t28,t29,t30,t31,t32,t33,t34,t35,t36,t37,t38,t39,t40,t41,t42,t43,t44,t45,t46,t47,x48,x49,x50,x51,x52,x53,x54,x55,x56,x57,x58,x59,x60,x61,x62,x63,x64,x65,x66,x67,x68],defers:=[] } wn) :
  (Code.region 11 ops19t true).wp Tryz.prog Q { tmps:=#[(.agg #[.slice A0 n0 c0,.slice A1 n1 c1,.slice A2 n2 c2,.slice A3 n3 c3,.slice A4 n4 c4,.int .i64 sq]),.int .i64 i,.pointer (some ⟨w.heap.size,0,none⟩),t3,t4,.slice A n2 cc,t6,.pointer (some ⟨gq,0,none⟩),t8,t9,t10,t11,t12,t13,t14,t15,t16,t17,t18,t19,t20,t21,t22,t23,t24,t25,t26,t27,t28,t29,t30,t31,t32,t33,t34,t35,t36,t37,t38,t39,t40,t41,t42,t43,t44,t45,t46,t47,t48,t49,t50,t51,t52,t53,t54,t55,t56,t57,t58,t59,t60,t61,t62,t63,t64,t65,t66,t67,t68],defers:=[] } wc:=by
 have hsq:=(hw.car_sq hf).2.1;have HSQ:Hid (∀ k,Sq18 (car19 S (th18 S wT) k)):=qz hsq
 have HSI:Hid ((qr18 (cw19 S (th18 S wT) i)).1 < 65536 ^ 36/\(qr18 (cw19 S (th18 S wT) i)).2 < 65536 ^ 36):=qz (by
  unfold cw19;split
  · exact (hsq _).2
  · rw [qr18_zero]; decide)
 have hm2:=hb.s.m2;have HAL:=qz (fun W (h:Bx14 w S A0 A1 A2 A3 A4 n0 n1 n2 n3 n4 c0 c1 c2 c3 c4 sq W) => all19 (.agg #[.slice A0 n0 c0,.slice A1 n1 c1,.slice A2 n2 c2,.slice A3 n3 c3,.slice A4 n4 c4,.int .i64 sq]) S wC wT W h.st hf hw)
 have HAT:=qz (fun W (h:Bx14 w S A0 A1 A2 A3 A4 n0 n1 n2 n3 n4 c0 c1 c2 c3 c4 sq W) => at19 (.agg #[.slice A0 n0 c0,.slice A1 n1 c1,.slice A2 n2 c2,.slice A3 n3 c3,.slice A4 n4 c4,.int .i64 sq]) S wC wT i W h.st hf hw)
 have HEN:=qz (fun W (h:Bx14 w S A0 A1 A2 A3 A4 n0 n1 n2 n3 n4 c0 c1 c2 c3 c4 sq W) => ends19 (.agg #[.slice A0 n0 c0,.slice A1 n1 c1,.slice A2 n2 c2,.slice A3 n3 c3,.slice A4 n4 c4,.int .i64 sq]) S W h.st)
 have HRN:=qz (fun W (h:Bx14 w S A0 A1 A2 A3 A4 n0 n1 n2 n3 n4 c0 c1 c2 c3 c4 sq W) => rends19 (.agg #[.slice A0 n0 c0,.slice A1 n1 c1,.slice A2 n2 c2,.slice A3 n3 c3,.slice A4 n4 c4,.int .i64 sq]) S W h.st);have HL2:=qz hb.s.l2;obtain ⟨es,hes⟩:=exq (en19 S S.H.length)
 have HEM:Hid (es.length<=1000000):=qz (by rw [<- hes]; have:=en19_len S S.H.length; have:=hb.s.l2; omega);rw [hes] at HEN HRN;have HQK:=qz hq;have HF1:=qz f1;have HF2:=qz f2;have HU1:=qz u1;have HU2:=qz u2;obtain ⟨ci,hci⟩:=exq (cw19 S (th18 S wT) i);obtain ⟨cr,hcr⟩:=exq (car19 S (th18 S wT));rw [hci] at HSI HAT HU1 HU2;rw [hcr] at HSQ HAL HQK
 have HY:Hid (Ly18 w S A0 A1 A2 A3 A4 n0 n1 n2 n3 n4 c0 c1 c2 c3 c4 sq wc wc):=qz ⟨hb,Below.refl _ _⟩;have HXN:Hid (Ly18 w S A0 A1 A2 A3 A4 n0 n1 n2 n3 n4 c0 c1 c2 c3 c4 sq wc wc.drew):=qz (HY.out.step (Below.refl _ _).drew);clear hf hw hb hq f1 f2 u1 u2 hsq hes hci hcr HY
 refine wp_region_held_drew (S:=Ly18 w S A0 A1 A2 A3 A4 n0 n1 n2 n3 n4 c0 c1 c2 c3 c4 sq wc) (by kernel_rfl) HXN.out (fun hHeld => ?_)
 change wpAnyH _ _ ops19t _ _ 22 #[false,false,false,false,false,false,false,false,false,false,false,false,false,false,false,false,false,false,false,false,false,false] _ _
 obtain ⟨wn,hwn⟩:=exq wc.drew;rw [hwn] at HXN hHeld;rw [hwn];clear hwn;have HBS:=HXN;refine tkp hP 0 (v:=?_) (fun W hS => ?_) ?_;rotate_left
 ·
  try dsimp only at hS
  obtain ⟨z0,z1,z2,z3,z4,z5⟩:=ce6 hS.b.b.x;go_simp
  try with_reducible rfl
 try simp only [Act.put,pt1,pt2,pt3]
 refine tkpq hP 2 ?_;refine rdy 1 (fun K hK => ?_);have HBS0:=HBS;go_simp;refine (HAL.out _ HBS0.out.b.b).mono ?_;rintro e wn ⟨g,rfl,hg,hr,hb⟩;have HBS:=qz (HBS0.out.step hb);rw [HL2.out] at hr ⊢;have HQ:=qz hr;clear hb HBS0 hg hr HAL;refine koq hK HBS.out (fun hHeld=>?_);clear hK K;refine rdy 3 (fun K hK => ?_);have HBS0:=HBS;go_simp
 refine (rsame18 g n2 cc A cr wn HQ.out (HQK.out.below HBS0.out.z) (fun k _ => HSQ.out k) (by omega)).mono ?_;rintro e wn ⟨rfl,hb⟩;have HBS:=qz (HBS0.out.step hb);clear hb HBS0 HQ HQK;refine koq hK HBS.out (fun hHeld=>?_);clear hK K;refine tkpq hP 4 ?_;refine tkp hP 5 (v:=?_) (fun W hS => ?_) ?_;rotate_left
 ·
  try dsimp only at hS
  obtain ⟨z0,z1,z2,z3,z4,z5⟩:=ce6 hS.b.b.x;go_simp
  try with_reducible rfl
 try simp only [Act.put,pt1,pt2,pt3]
 refine tkpq hP 6 ?_;refine tkp hP 8 (v:=?_) (fun W hS => ?_) ?_;rotate_left
 ·
  try dsimp only at hS
  have z0:=(hS.z.cell (World.block_lt_of_cell? _ _ HF1.out)).trans HF1.out;have z1:=(hS.z.cell (World.block_lt_of_cell? _ _ HF2.out)).trans HF2.out;go_simp
  try with_reducible rfl
 try simp only [Act.put,pt1,pt2,pt3]
 refine rdy 7 (fun K hK => ?_);have HBS0:=HBS;go_simp;refine (HAT.out _ HBS0.out.b.b).mono ?_;rintro e wn ⟨E1,k1,s1,E2,k2,s2,rfl,hx,hy,hb⟩;have HBS:=qz (HBS0.out.step hb);have HX:=qz hx;have HYY:=qz hy;clear hb HBS0 hx hy HAT;refine koq hK HBS.out (fun hHeld=>?_);clear hK K;refine rdy 9 (fun K hK => ?_);have HBS0:=HBS;go_simp
 refine (same4_r (j:=36) wn HX.out HYY.out (HU1.out.below HBS0.out.z) (HU2.out.below HBS0.out.z) HSI.out.1 HSI.out.2 (by omega)).mono ?_;rintro e wn ⟨rfl,hb⟩;have HBS:=qz (HBS0.out.step hb);clear hb HBS0 HX HYY;refine koq hK HBS.out (fun hHeld=>?_);clear hK K;refine tkpq hP 10 ?_;refine tkpq hP 11 ?_;refine tkp hP 12 (v:=?_) (fun W hS => ?_) ?_;rotate_left
 ·
  try dsimp only at hS
  obtain ⟨z0,z1,z2,z3,z4,z5⟩:=ce6 hS.b.b.x;go_simp
  try with_reducible rfl
 try simp only [Act.put,pt1,pt2,pt3]
 refine tkp hP 14 (v:=?_) (fun W hS => ?_) ?_;rotate_left
 ·
  try dsimp only at hS
  obtain ⟨z0,z1,z2,z3,z4,z5⟩:=ce6 hS.b.b.x;go_simp
  try with_reducible rfl
 try simp only [Act.put,pt1,pt2,pt3]
 refine rdy 13 (fun K hK => ?_);have HBS0:=HBS;go_simp;refine (HEN.out _ HBS0.out.b.b).mono ?_;rintro e wn ⟨Ae,ce,rfl,hr,hb⟩;have HBS:=qz (HBS0.out.step hb);have HR1:=qz hr;clear hb HBS0 hr HEN;refine koq hK HBS.out (fun hHeld=>?_);clear hK K;refine rdy 15 (fun K hK => ?_);have HBS0:=HBS;go_simp;refine (HRN.out _ HBS0.out.b.b).mono ?_
 rintro e wn ⟨Be,de,rfl,hr,hb⟩;have HBS:=qz (HBS0.out.step hb);have HR1:=qz ((HR1.out.below hb (Nat.le_refl _)).more hb.size);have HR2:=qz hr;clear hb HBS0 hr HRN;refine koq hK HBS.out (fun hHeld=>?_);clear hK K;refine rdy 16 (fun K hK => ?_);have HBS0:=HBS;go_simp;refine (rints11_yes Ae Be es es.length ce de wn rfl HR1.out HR2.out HEM.out).mono ?_
 rintro e wn ⟨rfl,hg⟩;have hb:=(Below.refl _ _).grown hg (Nat.le_refl _) (fun r hr => by cases hr);have HBS:=qz (HBS0.out.step hb);clear hb hg HBS0 HR1 HR2;refine koq hK HBS.out (fun hHeld=>?_);clear hK K;refine tkpq hP 17 ?_;refine tkpq hP 18 ?_;refine rdy 19 (fun K hK => ?_);have HBS0:=HBS;go_simp;refine (alive19_any wn).mono ?_;rintro e wn ⟨rfl,hb⟩
 have HBS:=qz (HBS0.out.step hb);clear hb HBS0;refine koq hK HBS.out (fun hHeld=>?_);clear hK K;refine tkpq hP 20 ?_;refine rdy 21 (fun K hK => ?_);go_simp;refine koq hK HBS.out (fun hHeld=>?_);clear hK K;refine wpAnyH_done (by kernel_rfl) ?_ _;exact hQ _ _ _ _ _ _ _ _ _ _ _ _ _ _ _ _ _ _ _ _ _ wn HBS.out.b.b.b
end
theorem cytells19_yes (A0 A1 A2 A3 A4:Option Addr) (n0 n1 n2 n3 n4 c0 c1 c2 c3 c4:Nat) (sq:Int) (i:Int) (S:Sv14) (w:World) (hs:SA14 w S A0 A1 A2 A3 A4 n0 n1 n2 n3 n4 c0 c1 c2 c3 c4 sq) (hn:Small14 n0 n1 n2 n3 n4) (hg:light17 S = true) (hf:Fine14 S) :
  Calls Tryz.prog 3 #[(.agg #[.slice A0 n0 c0,.slice A1 n1 c1,.slice A2 n2 c2,.slice A3 n3 c3,.slice A4 n4 c4,.int .i64 sq]),.int .i64 i] w fun e w' => e = .returned (.bool true)/\Below w.heap.size w w':=by
 obtain ⟨wC,wT,hw⟩:=wo18_ex hf;have hx0:=Bx14.new hs;have hxn:=hx0.step (Below.refl _ _).drew;obtain ⟨W1,hW1⟩:=exq (w.alloc (.cells #[.slice A0 n0 c0,.slice A1 n1 c1,.slice A2 n2 c2,.slice A3 n3 c3,.slice A4 n4 c4,.int .i64 sq] 28));rw [hW1] at hx0 hxn;have HX0:=qz hx0;obtain ⟨p0,p1,p2,p3,p4,p5⟩:=ce6 hx0.x
 have HC:=qz (fun W => small14 A0 A1 A2 A3 A4 n0 n1 n2 n3 n4 c0 c1 c2 c3 c4 sq true W (by simp [hn]))
 have HG:=qz (fun W (h:Bx14 w S A0 A1 A2 A3 A4 n0 n1 n2 n3 n4 c0 c1 c2 c3 c4 sq W) => (show Calls Tryz.prog 6 #[(.agg #[.slice A0 n0 c0,.slice A1 n1 c1,.slice A2 n2 c2,.slice A3 n3 c3,.slice A4 n4 c4,.int .i64 sq])] W fun e w' => e = .returned (.bool true)/\Below W.heap.size W w' from by have h1:=rlight17 (.agg #[.slice A0 n0 c0,.slice A1 n1 c1,.slice A2 n2 c2,.slice A3 n3 c3,.slice A4 n4 c4,.int .i64 sq]) S W h.st; rwa [hg] at h1))
 have HD:=qz (fun W (h:Bx14 w S A0 A1 A2 A3 A4 n0 n1 n2 n3 n4 c0 c1 c2 c3 c4 sq W) => rfine14 (.agg #[.slice A0 n0 c0,.slice A1 n1 c1,.slice A2 n2 c2,.slice A3 n3 c3,.slice A4 n4 c4,.int .i64 sq]) S true W h.st (by simp [hf]))
 have HRT:=qz (fun (k:Nat) hk W (h:Bx14 w S A0 A1 A2 A3 A4 n0 n1 n2 n3 n4 c0 c1 c2 c3 c4 sq W) => rat19 (.agg #[.slice A0 n0 c0,.slice A1 n1 c1,.slice A2 n2 c2,.slice A3 n3 c3,.slice A4 n4 c4,.int .i64 sq]) S wC wT k W h.st hf hw hk);have HF:=qz hf;have HWO:=qz hw;have HL2:=qz hs.l2;have HSS:=qz hs;have hnb2:=hs.m2;clear hs hx0 hxn hn hf hg hw
 go_enter Tryz.func3,Tryz.ntmps3;go_wp2_with fail;refine (HC.out _).mono ?_;rintro e u1 ⟨rfl,hb1⟩;have HX1:=qz (HX0.out.step hb1);obtain ⟨q0,q1,q2,q3,q4,q5⟩:=ce6 HX1.out.x;clear hb1 HC hW1 HX0 p0 p1 p2 p3 p4 p5;go_wp2_with fail;refine (HG.out _ HX1.out).mono ?_;rintro e u2 ⟨rfl,hb2⟩;have HX2:=qz (HX1.out.step hb2);obtain ⟨r0,r1,r2,r3,r4,r5⟩:=ce6 HX2.out.x
 clear hb2 HG HX1 q0 q1 q2 q3 q4 q5;go_wp2_with fail;refine (HD.out _ HX2.out).mono ?_;rintro e u3 ⟨rfl,hb3⟩;have HW0:Hid (Lr18 w S A0 A1 A2 A3 A4 n0 n1 n2 n3 n4 c0 c1 c2 c3 c4 sq u3 none 0 0 (car19 S (th18 S wT)) u3):=qz (Lr18.start _ ⟨HX2.out.step hb3,HSS.out⟩);clear hb3 HD HX2 r0 r1 r2 r3 r4 r5 HSS;go_wp2_with fail
 go_loopw [5,6] (fun v j wr => ∃ (k cc:Nat) (A:Option Addr),v = .slice A k cc/\j = .int .i64 (k:Int)/\k<=n2/\Hid (Lr18 w S A0 A1 A2 A3 A4 n0 n1 n2 n3 n4 c0 c1 c2 c3 c4 sq u3 A k cc (car19 S (th18 S wT)) wr)) (fun _ j _ => n2 - (intOf j).toNat)
 case atStart => exact ⟨0,0,none,rfl,rfl,by omega,HW0⟩
 case round =>
  clear HW0;obtain ⟨k,cc,A,rfl,rfl,hk,HW⟩:=hrel;obtain ⟨y0,y1,y2,y3,y4,y5⟩:=ce6 HW.out.b.b.x;by_cases hkn:k < n2
  ·
   have i0:(0:Int)<=(k:Int):=by omega
   have i1:(k:Int) < (n2:Int):=by omega
   have HRK:=qz (HRT.out k (by have:=HL2.out; omega));go_wp2_with fail;refine (HRK.out _ HW.out.b.b).mono ?_;rintro e w4 ⟨D1,j1,t1,D2,j2,t2,rfl,hq1,hq2,hb4⟩;obtain ⟨Az,cz,W3,hrun,har⟩:=HW.out.push hb4 ⟨hq1,hq2⟩ (by omega);have HRUN:=qz hrun;have HAR:=qz har;clear hq1 hq2 hb4 hrun har HRK HW y0 y1 y2 y3 y4 y5
   go_wp2_with (at_builtin; go_loud (refine wpList_append_14 _ rfl (.tmp 29) (.tmp 33) 31 rfl _ _ _ _ rfl rfl HRUN.out ?_));go_roundw
   case rel => exact ⟨k + 1,cz,Az,rfl,by go_num,by omega,HAR⟩
   case measure => simp [intOf]; omega
  ·
   obtain rfl:n2 = k:=by omega
   have i1:¬ (n2:Int) < (n2:Int):=by omega
   have HQ3:=qz HW.out.q.qin;have HB3:=qz HW.out.b;clear HW;go_wp2_with fail;refine (int18_0 _).mono ?_;rintro e w5 ⟨D1,p1',t1,D2,p2',t2,rfl,⟨M1,_,hq1⟩,⟨M2,_,hq2⟩,hb⟩;have hbv:=b1' w5 (.cells #[.slice D1 p1' t1,.slice D2 p2' t2] 35);have hv:=Blk.new w5 35 #[.slice D1 p1' t1,.slice D2 p2' t2];have HB6:=qz ((HB3.out.step hb).step hbv)
   have HQ5:=qz (HQ3.out.below hb);have HQ6:=qz (HQ5.out.below hbv);have HN1:=qz (hq1.below hbv);have HN2:=qz (hq2.below hbv);have HGW:Hid (w.heap.size < w5.heap.size):=qz ((HB3.out.step hb).b.x.lt);obtain ⟨W6,hW6⟩:=exq (w5.alloc (.cells #[.slice D1 p1' t1,.slice D2 p2' t2] 35));rw [hW6] at hv HB6 HQ6 HN1 HN2;have HV:=qz hv
   clear hq1 hq2 hb hbv hv HB3 HQ3 y0 y1 y2 y3 y4 y5;by_cases hin:0<=i/\i < (n2:Int)
   ·
    obtain ⟨h0,h1⟩:=hin;obtain ⟨j,rfl⟩:∃ j:Nat,i = (j:Int):=⟨i.toNat,by omega⟩
    have hjn:j < n2:=by omega
    have g0:decide ((j:Int)≥0) = true:=by simp
    obtain ⟨b,o,F1,l1,o1,F2,l2,o2,hA,f1,f2,⟨L1,u1⟩,⟨L2,u2⟩⟩:=HQ5.out j hjn;have hbl:b < w5.heap.size:=World.block_lt_of_cell? _ _ f1;have hbv:=b1' w5 (.cells #[.slice D1 p1' t1,.slice D2 p2' t2] 35);rw [hW6] at hbv;have f1':=(hbv.cell (p:=⟨b,o + j * 2,none⟩) hbl).trans f1;have f2':=(hbv.cell (p:=⟨b,o + j * 2 + 1,none⟩) hbl).trans f2
    have HU1:=qz (u1.below hbv);have HU2:=qz (u2.below hbv)
    have HBL:Hid (∀ k,k < n2->∃ b o A1 m1 d1 A2 m2 d2,A = some ⟨b,o,none⟩/\b < w5.heap.size/\W6.cell? ⟨b,o + k * 2,none⟩ = some (.slice A1 m1 d1)/\W6.cell? ⟨b,o + k * 2 + 1,none⟩ = some (.slice A2 m2 d2)/\(∃ L,Num W6 L (.agg #[.slice A1 m1 d1]) (qr18 (car19 S (th18 S wT) k)).1)/\∃ L,Num W6 L (.agg #[.slice A2 m2 d2]) (qr18 (car19 S (th18 S wT) k)).2):=qz (fun k hk => by
     obtain ⟨b,o,A1,m1,d1,A2,m2,d2,e0,e1,e2,⟨L3,e3⟩,⟨L4,e4⟩⟩:=HQ5.out k hk;have hl:=World.block_lt_of_cell? _ _ e1
     exact ⟨b,o,A1,m1,d1,A2,m2,d2,e0,hl,(hbv.cell (p:=⟨b,o + k * 2,none⟩) hl).trans e1,(hbv.cell (p:=⟨b,o + k * 2 + 1,none⟩) hl).trans e2,⟨L3,e3.below hbv⟩,⟨L4,e4.below hbv⟩⟩)
    have HAE:=qz hA;subst hA;have v0:=HV.out.cell 0;have v1:=HV.out.cell 1;have vf0:=HV.out.frozen 0;have vf1:=HV.out.frozen 1;clear f1 f2 u1 u2 hbv hbl;go_upto_region 11 with (fail)
    try rw [hW6]
    obtain ⟨gq,hgq⟩:=exq w5.heap.size;rw [hgq] at v0 v1 HV HGW HBL
    try rw [hgq]
    have q1:(W6.setCell ⟨gq,0,none⟩ (.slice F1 l1 o1)).cell? ⟨gq,1,none⟩ = some (.slice D2 p2' t2):=(HV.out.set_ 0 _).cell 1;have hp:=put_Q HV.out (.slice F1 l1 o1) (.slice F2 l2 o2)
    refine cyend19 (gq:=gq) (L1:=L1) (L2:=L2) HF.out HWO.out (HB6.out.low (((Below.refl _ _).setCell (by show w.heap.size + 1<=gq; have:=HGW.out; omega) (.slice F1 l1 o1)).setCell (by show w.heap.size + 1<=gq; have:=HGW.out; omega) (.slice F2 l2 o2))) (fun k hk => ?_) (hp.cell 0) (hp.cell 1) (by rw [cw19_nat HF.out]; exact (HU1.out.setSi v0).setSi q1) (by rw [cw19_nat HF.out]; exact (HU2.out.setSi v0).setSi q1) (fun _ _ _ _ _ h => h) (fun x48 x49 x50 x51 x52 x53 x54 x55 x56 x57 x58 x59 x60 x61 x62 x63 x64 x65 x66 x67 x68 wn hbn => ?_)
    ·
     obtain ⟨b,o,A1,m1,d1,A2,m2,d2,e0,hl,e1,e2,⟨L3,e3⟩,⟨L4,e4⟩⟩:=HBL.out k hk;refine ⟨b,o,A1,m1,d1,A2,m2,d2,e0,?_,?_,⟨L3,(e3.setSi v0).setSi q1⟩,⟨L4,(e4.setSi v0).setSi q1⟩⟩
     ·
      rw [World.cell?_setCell_other _ _ _ _ (by intro e; injection e with e; omega),World.cell?_setCell_other _ _ _ _ (by intro e; injection e with e; omega)];exact e1
     ·
      rw [World.cell?_setCell_other _ _ _ _ (by intro e; injection e with e; omega),World.cell?_setCell_other _ _ _ _ (by intro e; injection e with e; omega)];exact e2
    go_wp2_with fail;go_ret;exact ⟨rfl,hbn⟩
   ·
    have hz:cw19 S (th18 S wT) i = 0:=by
     unfold cw19
     cases hu:us14 usH S.H i with
     | false => exact if_neg (by decide)
     | true =>
      have:=ush16_lt hu;have:=HL2.out;omega
    have HZ:=qz hz;by_cases h0:0<=i
    ·
     have g0:decide (i≥0) = true:=by simp [h0]
     have g1:decide (i < (n2:Int)) = false:=by simp; omega
     go_upto_region 11 with (fail)
     try rw [hW6]
     refine cyend19 (gq:=w5.heap.size) (L1:=M1) (L2:=M2) HF.out HWO.out HB6.out HQ6.out (HV.out.cell 0) (HV.out.cell 1) (by rw [HZ.out]; exact HN1.out) (by rw [HZ.out]; exact HN2.out) (fun _ _ _ _ _ h => h) (fun x48 x49 x50 x51 x52 x53 x54 x55 x56 x57 x58 x59 x60 x61 x62 x63 x64 x65 x66 x67 x68 wn hbn => ?_);go_wp2_with fail;go_ret;exact ⟨rfl,hbn⟩
    ·
     have g0:decide (i≥0) = false:=by simp; omega
     go_upto_region 11 with (fail)
     try rw [hW6]
     refine cyend19 (gq:=w5.heap.size) (L1:=M1) (L2:=M2) HF.out HWO.out HB6.out HQ6.out (HV.out.cell 0) (HV.out.cell 1) (by rw [HZ.out]; exact HN1.out) (by rw [HZ.out]; exact HN2.out) (fun _ _ _ _ _ h => h) (fun x48 x49 x50 x51 x52 x53 x54 x55 x56 x57 x58 x59 x60 x61 x62 x63 x64 x65 x66 x67 x68 wn hbn => ?_);go_wp2_with fail;go_ret;exact ⟨rfl,hbn⟩
theorem carryTells_all (W:World) (A00 A01 A02 A03 A04:Option Addr) (n00 n01 n02 n03 n04 c00 c01 c02 c03 c04:Nat) (q0:Int) (S0:Sv14) (i:Int) (h0:Small14 n00 n01 n02 n03 n04->SA14 W S0 A00 A01 A02 A03 A04 n00 n01 n02 n03 n04 c00 c01 c02 c03 c04 q0) (_:-9223372036854775808<=i) (_:i<=9223372036854775807) :
  Calls Tryz.prog 3 #[.agg #[.slice A00 n00 c00,.slice A01 n01 c01,.slice A02 n02 c02,.slice A03 n03 c03,.slice A04 n04 c04,.int .i64 q0],.int .i64 i] W fun e w' => e = .returned (.bool true)/\Below W.heap.size W w':=by
 by_cases hn:Small14 n00 n01 n02 n03 n04
 case neg => exact cytells19_no1 A00 A01 A02 A03 A04 n00 n01 n02 n03 n04 c00 c01 c02 c03 c04 q0 i S0 W hn
 cases hg:light17 S0 with
 | false => exact cytells19_no2 A00 A01 A02 A03 A04 n00 n01 n02 n03 n04 c00 c01 c02 c03 c04 q0 i S0 W (h0 hn) hn hg
 | true =>
  by_cases hf:Fine14 S0
  · exact cytells19_yes A00 A01 A02 A03 A04 n00 n01 n02 n03 n04 c00 c01 c02 c03 c04 q0 i S0 W (h0 hn) hn hg hf
  · exact cytells19_no3 A00 A01 A02 A03 A04 n00 n01 n02 n03 n04 c00 c01 c02 c03 c04 q0 i S0 W (h0 hn) hn hg hf
end
section
open Go.ChangeShapes Go.WideShapes Go.ChangeAt Go.RowKit
set_option maxRecDepth 100000
theorem open_i64 {H:Type} {enc:TypeId × Value->H} {W:World} {base:Nat} {v:Value} {d:DataW H} {p:List MemPlace} (hv:Value.okWide Tryz.prog W .any base 3 v) (h:DataW.Trod enc Tryz.prog W 0 (fun _ => true) true 3 v d p) :
  ∃ a:Int,v = .int .i64 a/\-9223372036854775808<=a/\a<=9223372036854775807:=by
 obtain ⟨a,rfl,_,_,w⟩:=open_int Tryz.underlying3 hv h;have x:-9223372036854775808<=a/\a<=9223372036854775807:=by simpa [Lit.wf,IntKind.min,IntKind.max,IntKind.signed,IntKind.bits] using w
 exact ⟨a,rfl,x.1,x.2⟩
theorem open_rows14 {α:Type} [Inhabited α] {cl:α->List Value} {k:Nat} (hk:∀ x,(cl x).length = k) (hk0:0 < k) {H:Type} {enc:TypeId × Value->H} {W:World} {t e:TypeId} (ht:Tryz.prog.underlying t = some (.slice e)) (he:Tryz.prog.cellsOf e = k)
  (hx:∀ f cs y,cs.length = k->DataW.trod enc Tryz.prog W 0 (fun _ => true) true f e cs = some y->∃ x,cs = cl x) {v:Value} {f:Nat} {y:DataW H × List MemPlace} (h:DataW.trod enc Tryz.prog W 0 (fun _ => true) true f t [v] = some y) :
  ∃ (A:Option Addr) (n c:Nat) (xs:List α),v = .slice A n c/\xs.length = n/\Lq cl W W.heap.size A xs/\n<=c:=by
 rcases Go.Deep.open_slice ht h with ⟨hcs,hy⟩ | ⟨a,len,cap,m,n,D,Pl,hcs,hb,hl,hm,hmm,hy,hel⟩
 ·
  simp at hcs;subst hcs;exact ⟨none,0,0,[],rfl,rfl,Lq.nil _ _ _ _,Nat.le_refl _⟩
 ·
  simp at hcs;subst hcs;simp only [if_true] at hmm
  have each:∀ i,i < len->∃ x:α,∀ j v,(cl x)[j]? = some v->W.cell? (a.add (i * k + j)) = some v:=by
   intro i hi;obtain ⟨cs',h1,h2⟩:=hel i (by omega);rw [he] at h1;obtain ⟨_,hlen,hcell⟩:=World.cells?_some h1;obtain ⟨x,rfl⟩:=hx _ _ _ hlen h2;refine ⟨x,fun j v hj => ?_⟩
   have hjk:j < k:=by
    have:=(List.getElem?_eq_some_iff.1 hj).1
    rwa [hk] at this
   have:=hcell j hjk;rw [Go.Deep.add_add] at this;rw [this];exact hj
  obtain ⟨q,hq⟩:=Go.Deep.choose_lt each;have hll:((List.range len).map q).length = len:=by simp
  refine ⟨some a,len,cap,(List.range len).map q,rfl,hll,fun hne => ?_,hl⟩
  have hpos:0 < len:=by
   rcases Nat.eq_zero_or_pos len with h0 | h0
   ·
    subst h0;exact absurd rfl hne
   · exact h0
  have hfirst:∃ v,W.cell? a = some v:=by
   have hc0:0 < (cl (q 0)).length:=by rw [hk]; exact hk0
   refine ⟨(cl (q 0))[0],?_⟩;have:=hq 0 hpos 0 _ (List.getElem?_eq_getElem hc0);simpa [Addr.add] using this
  obtain ⟨v0,hv0⟩:=hfirst;obtain ⟨b,off,spot⟩:=a;have hspot:spot = none:=by simpa using World.cell?_spot hv0
  subst hspot;refine ⟨b,off,rfl,World.block_lt_of_cell? W _ hv0,fun j v hj => ?_⟩
  have hjl:j < len * k:=by
   have:=(List.getElem?_eq_some_iff.1 hj).1;rw [fl14_len hk,hll] at this;exact this
  have hd:j / k < len:=Nat.div_lt_of_lt_mul (by rw [Nat.mul_comm]; exact hjl);have hm':j % k < k:=Nat.mod_lt _ hk0;have hj2:j / k * k + j % k = j:=by rw [Nat.mul_comm]; exact Nat.div_add_mod j k
  rw [<- hj2,fl14_get hk (by rw [hll]; exact hd) hm'] at hj;have hg:gt14 ((List.range len).map q) (j / k) = q (j / k):=by simp [gt14,hd]
  rw [hg] at hj;have:=hq (j / k) hd (j % k) v hj;rw [hj2] at this;simpa only [Go.WideShapes.add_plain] using this
theorem trod_fld14 {P:Program} {H:Type} {enc:TypeId × Value->H} {w:World} {base:Nat} {spare:Nat->Bool} {held:Bool} {t:TypeId} {fs:Array Field} {fuel:Nat} {cs:List Value} {x:DataW H × List MemPlace} (ht:P.underlying t = some (.struct fs)) (h:DataW.trod enc P w base spare held fuel t cs = some x) :
  ∃ n,∀ (i:Nat) (f:Field),fs[i]? = some f->∃ y,DataW.trod enc P w base spare held n f.type ((cs.drop f.offset).take (P.cellsOf f.type)) = some y:=by
 obtain ⟨xs,n,_,rfl,hl,hlen,hf⟩:=DataW.trod_struct ht h;refine ⟨n,fun i f hi => ?_⟩;have hlt:i < fs.size:=(Array.getElem?_eq_some_iff.1 hi).1;have:=hf i f hi;rw [List.getElem?_eq_getElem (by omega)] at this;exact ⟨_,this⟩
theorem cells14_bool:Tryz.prog.cellsOf 4 = 1:=by kernel_rfl
theorem cells14_int:Tryz.prog.cellsOf 3 = 1:=by kernel_rfl
theorem elem14_T {H:Type} {enc:TypeId × Value->H} {W:World} (f:Nat) (cs:List Value) (y:DataW H × List MemPlace) (hl:cs.length = 6) (h:DataW.trod enc Tryz.prog W 0 (fun _ => true) true f 55 cs = some y):∃ x,cs = clT x:=by
 obtain ⟨n,hf⟩:=trod_fld14 Tryz.underlying55 h
 match cs,hl with
 | [z0,z1,z2,z3,z4,z5],_ =>
  obtain ⟨y0,g0⟩:=hf 0 _ rfl;have g0:DataW.trod enc Tryz.prog W 0 (fun _ => true) true n 4 (([z0,z1,z2,z3,z4,z5].drop 0).take (Tryz.prog.cellsOf 4)) = some y0:=g0;rw [cells14_bool] at g0;obtain ⟨x0,e0,_⟩:=DataW.trod_bool Tryz.underlying4 g0;obtain ⟨y1,g1⟩:=hf 1 _ rfl
  have g1:DataW.trod enc Tryz.prog W 0 (fun _ => true) true n 3 (([z0,z1,z2,z3,z4,z5].drop 1).take (Tryz.prog.cellsOf 3)) = some y1:=g1;rw [cells14_int] at g1;obtain ⟨x1,e1,_,_⟩:=DataW.trod_int Tryz.underlying3 g1;obtain ⟨y2,g2⟩:=hf 2 _ rfl
  have g2:DataW.trod enc Tryz.prog W 0 (fun _ => true) true n 3 (([z0,z1,z2,z3,z4,z5].drop 2).take (Tryz.prog.cellsOf 3)) = some y2:=g2;rw [cells14_int] at g2;obtain ⟨x2,e2,_,_⟩:=DataW.trod_int Tryz.underlying3 g2;obtain ⟨y3,g3⟩:=hf 3 _ rfl
  have g3:DataW.trod enc Tryz.prog W 0 (fun _ => true) true n 3 (([z0,z1,z2,z3,z4,z5].drop 3).take (Tryz.prog.cellsOf 3)) = some y3:=g3;rw [cells14_int] at g3;obtain ⟨x3,e3,_,_⟩:=DataW.trod_int Tryz.underlying3 g3;obtain ⟨y4,g4⟩:=hf 4 _ rfl
  have g4:DataW.trod enc Tryz.prog W 0 (fun _ => true) true n 3 (([z0,z1,z2,z3,z4,z5].drop 4).take (Tryz.prog.cellsOf 3)) = some y4:=g4;rw [cells14_int] at g4;obtain ⟨x4,e4,_,_⟩:=DataW.trod_int Tryz.underlying3 g4;obtain ⟨y5,g5⟩:=hf 5 _ rfl
  have g5:DataW.trod enc Tryz.prog W 0 (fun _ => true) true n 4 (([z0,z1,z2,z3,z4,z5].drop 5).take (Tryz.prog.cellsOf 4)) = some y5:=g5;rw [cells14_bool] at g5;obtain ⟨x5,e5,_⟩:=DataW.trod_bool Tryz.underlying4 g5;simp at e0 e1 e2 e3 e4 e5;subst e0 e1 e2 e3 e4 e5;exact ⟨⟨x0,x1,x2,x3,x4,x5⟩,rfl⟩
theorem elem14_H {H:Type} {enc:TypeId × Value->H} {W:World} (f:Nat) (cs:List Value) (y:DataW H × List MemPlace) (hl:cs.length = 5) (h:DataW.trod enc Tryz.prog W 0 (fun _ => true) true f 60 cs = some y):∃ x,cs = clH x:=by
 obtain ⟨n,hf⟩:=trod_fld14 Tryz.underlying60 h
 match cs,hl with
 | [z0,z1,z2,z3,z4],_ =>
  obtain ⟨y0,g0⟩:=hf 0 _ rfl;have g0:DataW.trod enc Tryz.prog W 0 (fun _ => true) true n 3 (([z0,z1,z2,z3,z4].drop 0).take (Tryz.prog.cellsOf 3)) = some y0:=g0;rw [cells14_int] at g0;obtain ⟨x0,e0,_,_⟩:=DataW.trod_int Tryz.underlying3 g0;obtain ⟨y1,g1⟩:=hf 1 _ rfl
  have g1:DataW.trod enc Tryz.prog W 0 (fun _ => true) true n 3 (([z0,z1,z2,z3,z4].drop 1).take (Tryz.prog.cellsOf 3)) = some y1:=g1;rw [cells14_int] at g1;obtain ⟨x1,e1,_,_⟩:=DataW.trod_int Tryz.underlying3 g1;obtain ⟨y2,g2⟩:=hf 2 _ rfl
  have g2:DataW.trod enc Tryz.prog W 0 (fun _ => true) true n 3 (([z0,z1,z2,z3,z4].drop 2).take (Tryz.prog.cellsOf 3)) = some y2:=g2;rw [cells14_int] at g2;obtain ⟨x2,e2,_,_⟩:=DataW.trod_int Tryz.underlying3 g2;obtain ⟨y3,g3⟩:=hf 3 _ rfl
  have g3:DataW.trod enc Tryz.prog W 0 (fun _ => true) true n 3 (([z0,z1,z2,z3,z4].drop 3).take (Tryz.prog.cellsOf 3)) = some y3:=g3;rw [cells14_int] at g3;obtain ⟨x3,e3,_,_⟩:=DataW.trod_int Tryz.underlying3 g3;obtain ⟨y4,g4⟩:=hf 4 _ rfl
  have g4:DataW.trod enc Tryz.prog W 0 (fun _ => true) true n 3 (([z0,z1,z2,z3,z4].drop 4).take (Tryz.prog.cellsOf 3)) = some y4:=g4;rw [cells14_int] at g4;obtain ⟨x4,e4,_,_⟩:=DataW.trod_int Tryz.underlying3 g4;simp at e0 e1 e2 e3 e4;subst e0 e1 e2 e3 e4;exact ⟨⟨x0,x1,x2,x3,x4⟩,rfl⟩
theorem elem14_L {H:Type} {enc:TypeId × Value->H} {W:World} (f:Nat) (cs:List Value) (y:DataW H × List MemPlace) (hl:cs.length = 2) (h:DataW.trod enc Tryz.prog W 0 (fun _ => true) true f 79 cs = some y):∃ x,cs = clL x:=by
 obtain ⟨n,hf⟩:=trod_fld14 Tryz.underlying79 h
 match cs,hl with
 | [z0,z1],_ =>
  obtain ⟨y0,g0⟩:=hf 0 _ rfl;have g0:DataW.trod enc Tryz.prog W 0 (fun _ => true) true n 4 (([z0,z1].drop 0).take (Tryz.prog.cellsOf 4)) = some y0:=g0;rw [cells14_bool] at g0;obtain ⟨x0,e0,_⟩:=DataW.trod_bool Tryz.underlying4 g0;obtain ⟨y1,g1⟩:=hf 1 _ rfl
  have g1:DataW.trod enc Tryz.prog W 0 (fun _ => true) true n 3 (([z0,z1].drop 1).take (Tryz.prog.cellsOf 3)) = some y1:=g1;rw [cells14_int] at g1;obtain ⟨x1,e1,_,_⟩:=DataW.trod_int Tryz.underlying3 g1;simp at e0 e1;subst e0 e1;exact ⟨⟨x0,x1⟩,rfl⟩
theorem elem14_C {H:Type} {enc:TypeId × Value->H} {W:World} (f:Nat) (cs:List Value) (y:DataW H × List MemPlace) (hl:cs.length = 1) (h:DataW.trod enc Tryz.prog W 0 (fun _ => true) true f 4 cs = some y):∃ x,cs = clC x:=by
 obtain ⟨x,rfl,_⟩:=DataW.trod_bool Tryz.underlying4 h;exact ⟨x,rfl⟩
theorem elem14_I {H:Type} {enc:TypeId × Value->H} {W:World} (f:Nat) (cs:List Value) (y:DataW H × List MemPlace) (hl:cs.length = 1) (h:DataW.trod enc Tryz.prog W 0 (fun _ => true) true f 3 cs = some y):∃ x,cs = clI x:=by
 obtain ⟨x,rfl,_⟩:=DataW.trod_int Tryz.underlying3 h;exact ⟨x,rfl⟩
theorem open_state14 {H:Type} {enc:TypeId × Value->H} {W:World} {base:Nat} {v:Value} {d:DataW H} {p:List MemPlace} (hv:Value.okWide Tryz.prog W .any base 28 v) (h:DataW.Trod enc Tryz.prog W 0 (fun _ => true) true 28 v d p) :
  ∃ (A0 A1 A2 A3 A4:Option Addr) (n0 n1 n2 n3 n4 c0 c1 c2 c3 c4:Nat) (sq:Int) (S:Sv14),v = .agg #[.slice A0 n0 c0,.slice A1 n1 c1,.slice A2 n2 c2,.slice A3 n3 c3,.slice A4 n4 c4,.int .i64 sq]/\(Small14 n0 n1 n2 n3 n4->SA14 W S A0 A1 A2 A3 A4 n0 n1 n2 n3 n4 c0 c1 c2 c3 c4 sq):=by
 obtain ⟨cs,rfl,hsz⟩:=okWide_struct Tryz.underlying28 hv;rw [show Tryz.prog.cellsOf 28 = 6 by kernel_rfl] at hsz;obtain ⟨l,rfl⟩:∃ l:List Value,cs = l.toArray:=⟨cs.toList,by simp⟩
 obtain ⟨fuel,hf⟩:=h;simp only [Value.cells] at hf;obtain ⟨n,hg⟩:=trod_fld14 Tryz.underlying28 hf
 match l,hsz with
 | [z0,z1,z2,z3,z4,z5],_ =>
  obtain ⟨y0,g0⟩:=hg 0 _ rfl;have g0:DataW.trod enc Tryz.prog W 0 (fun _ => true) true n 22 (([z0,z1,z2,z3,z4,z5].drop 0).take (Tryz.prog.cellsOf 22)) = some y0:=g0;rw [show Tryz.prog.cellsOf 22 = 1 by kernel_rfl] at g0;obtain ⟨A0,n0,c0,x0,e0,l0,r0,k0⟩:=open_rows14 len14C (by omega) Tryz.underlying22 (by kernel_rfl) elem14_C (v:=z0) (by simpa using g0)
  obtain ⟨y1,g1⟩:=hg 1 _ rfl;have g1:DataW.trod enc Tryz.prog W 0 (fun _ => true) true n 23 (([z0,z1,z2,z3,z4,z5].drop 1).take (Tryz.prog.cellsOf 23)) = some y1:=g1;rw [show Tryz.prog.cellsOf 23 = 1 by kernel_rfl] at g1;obtain ⟨A1,n1,c1,x1,e1,l1,r1,k1⟩:=open_rows14 len14T (by omega) Tryz.underlying23 (by kernel_rfl) elem14_T (v:=z1) (by simpa using g1)
  obtain ⟨y2,g2⟩:=hg 2 _ rfl;have g2:DataW.trod enc Tryz.prog W 0 (fun _ => true) true n 24 (([z0,z1,z2,z3,z4,z5].drop 2).take (Tryz.prog.cellsOf 24)) = some y2:=g2;rw [show Tryz.prog.cellsOf 24 = 1 by kernel_rfl] at g2;obtain ⟨A2,n2,c2,x2,e2,l2,r2,k2⟩:=open_rows14 len14H (by omega) Tryz.underlying24 (by kernel_rfl) elem14_H (v:=z2) (by simpa using g2)
  obtain ⟨y3,g3⟩:=hg 3 _ rfl;have g3:DataW.trod enc Tryz.prog W 0 (fun _ => true) true n 25 (([z0,z1,z2,z3,z4,z5].drop 3).take (Tryz.prog.cellsOf 25)) = some y3:=g3;rw [show Tryz.prog.cellsOf 25 = 1 by kernel_rfl] at g3;obtain ⟨A3,n3,c3,x3,e3,l3,r3,k3⟩:=open_rows14 len14L (by omega) Tryz.underlying25 (by kernel_rfl) elem14_L (v:=z3) (by simpa using g3)
  obtain ⟨y4,g4⟩:=hg 4 _ rfl;have g4:DataW.trod enc Tryz.prog W 0 (fun _ => true) true n 26 (([z0,z1,z2,z3,z4,z5].drop 4).take (Tryz.prog.cellsOf 26)) = some y4:=g4;rw [show Tryz.prog.cellsOf 26 = 1 by kernel_rfl] at g4;obtain ⟨A4,n4,c4,x4,e4,l4,r4,k4⟩:=open_rows14 len14I (by omega) Tryz.underlying26 (by kernel_rfl) elem14_I (v:=z4) (by simpa using g4)
  obtain ⟨y5,g5⟩:=hg 5 _ rfl;have g5:DataW.trod enc Tryz.prog W 0 (fun _ => true) true n 3 (([z0,z1,z2,z3,z4,z5].drop 5).take (Tryz.prog.cellsOf 3)) = some y5:=g5;rw [cells14_int] at g5;obtain ⟨sq,e5,_,_⟩:=DataW.trod_int Tryz.underlying3 g5;simp at e5;subst e0 e1 e2 e3 e4 e5
  refine ⟨A0,A1,A2,A3,A4,n0,n1,n2,n3,n4,c0,c1,c2,c3,c4,sq,⟨x0,x1,x2,x3,x4,sq⟩,rfl,fun hs => ?_⟩;obtain ⟨s0,s1,s2,s3,s4⟩:=hs;exact ⟨l0,l1,l2,l3,l4,r0,r1,r2,r3,r4,k0,k1,k2,k3,k4,by omega,by omega,by omega,by omega,by omega,rfl⟩
set_option maxRecDepth 100000 in
theorem carryTells_lifted (os:Os) (started:os.Started) (H:Type) (enc:TypeId × Value->H) :
  ReturnsInHanded {} Tryz.checked os 3 .any (Rows.carryTellsSpec.pre6 enc Tryz.prog Tryz.f3 Rows.carryTellsRow.domain false) (Rows.carryTellsSpec.post enc Tryz.prog Tryz.f3 false true false false):=by
 refine returnsInHanded_of_change (C:=Tryz.checked) own_knob started (by kernel_rfl) Tryz.func3
  (ChangeSpec.witness6 (enc:=enc) (C:=Tryz.checked) false ⟨#[],#[.agg #[.slice none 0 0,.slice none 0 0,.slice none 0 0,.slice none 0 0,.slice none 0 0,.int .i64 0],.int .i64 0],[]⟩ 8 (by kernel_rfl) (by kernel_rfl) (by kernel_rfl) (by kernel_rfl)) ?_
 intro W base args ds gs before hval0 hW hcnd _;have hval:∀ (j:Nat) t v,Tryz.f3.params[j]? = some t->args[j]? = some v->Value.okWide Tryz.prog W .any base t v:=hval0;have hW':DataW.Whole enc Tryz.prog Tryz.f3.params.toList Rows.carryTellsSpec.vars false W args.toList ds gs before:=hW;obtain ⟨p,q,hA0,hV,hpq,hfz,hnd⟩:=hW
 have hA:DataW.TrodAll enc Tryz.prog W 0 (fun _ => true) true Tryz.f3.params.toList args.toList ds p:=hA0;rw [Tryz.params3] at hA hval;obtain ⟨v0,vs0,d0,ds0,p0,q0,hargs,rfl,rfl,t0,r0⟩:=trodAll_cons hA;obtain ⟨v1,vs1,d1,ds1,p1,q1,rfl,rfl,rfl,t1,r1⟩:=trodAll_cons r0;obtain ⟨rfl,rfl,rfl⟩:=trodAll_nil r1;obtain rfl:args = #[v0,v1]:=by cases args; simp_all
 obtain ⟨A00,A01,A02,A03,A04,n00,n01,n02,n03,n04,c00,c01,c02,c03,c04,q0,S0,rfl,h0⟩:=open_state14 (hval 0 28 v0 rfl rfl) t0;obtain ⟨a1,rfl,h1,k1⟩:=open_i64 (hval 1 3 v1 rfl rfl) t1
 have hwalk:Calls Tryz.prog 3 #[.agg #[.slice A00 n00 c00,.slice A01 n01 c01,.slice A02 n02 c02,.slice A03 n03 c03,.slice A04 n04 c04,.int .i64 q0],.int .i64 a1] W fun e w' => e = .returned (.bool true)/\Below W.heap.size W w':=carryTells_all W A00 A01 A02 A03 A04 n00 n01 n02 n03 n04 c00 c01 c02 c03 c04 q0 S0 a1 h0 h1 k1
 refine hwalk.mono fun e W' ⟨he,hg⟩ => ?_
 subst he;exact ⟨_,rfl,law_post laid_out (by kernel_rfl) Tryz.underlying4 (by kernel_rfl) rfl hW' rfl hg⟩
theorem carryTells_over:Rows.carryTellsRow.holds Tryz.pinned (OpenSpec.ofChange Rows.carryTellsSpec) :=
 OpenClaim.holds_of_wide 3 Tryz.f3 rfl rfl rfl rfl rfl rfl rfl ⟨rfl,rfl,rfl,rfl,rfl⟩ rfl rfl rfl rfl rfl (by kernel_rfl) Tryz.func3 (by kernel_rfl)
  (of_decide_eq_true (by kernel_rfl)) (by unfold Func.isWrapper; first | (rw [if_pos (by decide +kernel)]; kernel_rfl) | (rw [if_neg (by decide +kernel)]; exact ⟨rfl,rfl⟩))
  (fun os started H enc _ => carryTells_lifted os started H enc)
theorem carryTells_holds:Rows.CarryTellsSaid :=
 carryTells_over
end
end Go.Proofs.YtkdmnlihpebbkaaGreat
