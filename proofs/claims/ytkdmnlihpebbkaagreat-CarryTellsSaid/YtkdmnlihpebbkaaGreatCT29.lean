import Derived.Test.YtkdmnlihpebbkaaGreatCT28
set_option linter.all false
set_option maxHeartbeats 64000000
namespace Go.Proofs.YtkdmnlihpebbkaaGreat
section
open Go.RowKit
set_option maxRecDepth 100000
def exS19:Sv14:=⟨[true],[⟨true,0,3,1,0,true⟩,⟨true,0,4,1,1,true⟩],[⟨2,-1,1,1,1⟩,⟨4,0,-1,1,1⟩],[],[],5⟩
theorem exs19_us0:us14 usC exS19.C 0 = true:=by decide +kernel
theorem exs19_uh0:us14 usH exS19.H 0 = true:=by decide +kernel
theorem exs19_uh1:us14 usH exS19.H 1 = true:=by decide +kernel
theorem exs19_n0:nxt16 exS19 0 = -1:=by decide +kernel
theorem exs19_n1:nxt16 exS19 1 = 0:=by decide +kernel
theorem exs19_ca:cut13 1 (cArr14 exS19 2) = []:=by decide +kernel
theorem exs19_ta:cut13 2 (tArr14 exS19 2) = [(1,0)]:=by decide +kernel
theorem exs19_t0:Tl16 exS19 0 [0]:=.inr ⟨exs19_uh0,0,rfl,.one exs19_n0⟩
theorem exs19_t1:Tl16 exS19 1 [1,0]:=.inr ⟨exs19_uh1,1,rfl,.step (j:=0) exs19_n1 (.one exs19_n0)⟩
theorem exs19_done1:Done13 [] 1 [0]:=by
 refine ⟨.next (os:=[]) .nil ⟨by decide,by decide,fun f hf => by cases hf⟩ (fun j hj => by omega),fun i h => ?_⟩;have h1:=h.1;have h2:=h.2.1;simp at h2;omega
theorem exs19_done:Done13 [(1,0)] 2 [1,0]:=by
 refine ⟨.next (os:=[1]) (.next (os:=[]) .nil ⟨by decide,by decide,fun f hf => by simp at hf⟩ (fun j hj h => ?_)) ⟨by decide,by decide,fun f hf => ?_⟩ (fun j hj => by omega),fun i h => ?_⟩
 ·
  obtain rfl:j = 0:=by omega
  have:=h.2.2 1 (by simp);cases this
 ·
  simp at hf;simp [hf]
 ·
  have h1:=h.1;have h2:=h.2.1;simp at h2;omega
theorem exs19_fine:Fine14 exS19:=by
 refine ⟨by decide,by decide,⟨⟨by decide,by decide,fun j hj h => ?_⟩,⟨by decide,by decide,fun j hj h => ?_⟩,⟨by decide,by decide,fun j hj h => ?_⟩,⟨by decide,by decide,(fun j hj => by cases hj)⟩⟩,by decide +kernel,fun j hj _ => ?_,⟨fun j hj _ => ?_,by decide⟩,(fun j hj => by cases hj),⟨by decide,fun j hj h => ?_,?_⟩,⟨[0],?_,rfl⟩,⟨[1,0],?_,rfl⟩⟩
 ·
  match j,hj with
  | 0,_ => cases h
 ·
  match j,hj with
  | 0,_ => cases h
  | 1,_ => cases h
 ·
  match j,hj with
  | 0,_ => cases h
  | 1,_ => cases h
 ·
  match j,hj with
  | 0,_ => exact ⟨exs19_us0,by decide,by decide,.inr (.inl ⟨rfl,exs19_uh0⟩)⟩
  | 1,_ => exact ⟨exs19_us0,by decide,by decide,.inr (.inl ⟨rfl,exs19_uh1⟩)⟩
 ·
  match j,hj with
  | 0,_ => exact ⟨.inr (.inr ⟨.inr (.inl rfl),rfl⟩),.inr ⟨by decide,by decide +kernel,by decide +kernel⟩,.inl ⟨rfl,rfl⟩⟩
  | 1,_ => exact ⟨.inl ⟨rfl,exs19_uh0,by decide⟩,.inl rfl,.inl ⟨rfl,rfl⟩⟩
 ·
  match j,hj with
  | 0,_ => intro g; cases g.1
  | 1,_ => intro g; exact absurd g.2 (by decide +kernel)
 · decide +kernel
 ·
  show Done13 (cut13 1 (cArr14 exS19 2)) 1 [0];rw [exs19_ca];exact exs19_done1
 ·
  show Done13 (cut13 2 (tArr14 exS19 2)) 2 [1,0];rw [exs19_ta];exact exs19_done
theorem exs19_c0:Cnt17 exS19 0:=.thr (by decide) rfl rfl rfl ⟨0,[0],rfl,exs19_uh0,.one exs19_n0,.inl (by decide +kernel)⟩
theorem exs19_c1:Cnt17 exS19 1:=.thr (by decide) rfl rfl rfl ⟨1,[1,0],rfl,exs19_uh1,.step (j:=0) exs19_n1 (.one exs19_n0),.inl (by decide +kernel)⟩
theorem exs19_a0:amt17 exS19 0 2 = 7:=by
 rw [amt17,amt17,amt17,cntb17_yes.2 exs19_c0,cntb17_yes.2 exs19_c1];decide +kernel
theorem exs19_th {wC wT:Nat->Rat} (h:Wo18 exS19 wC wT):th18 exS19 wT 0 = 3/\th18 exS19 wT 1 = 4:=by
 have h0:wT 0 = 3:=by
  rw [h.t,if_pos (cntb17_yes.2 exs19_c0),if_pos (show (gt14 exS19.T 0).c = 0 from rfl),show (gt14 exS19.T 0).a = 3 from rfl];rfl
 have h1:wT 1 = 4:=by
  rw [h.t,if_pos (cntb17_yes.2 exs19_c1),if_pos (show (gt14 exS19.T 1).c = 0 from rfl),show (gt14 exS19.T 1).a = 4 from rfl];rfl
 have b0:(gt14 exS19.T 0).u = true/\(gt14 exS19.T 0).k = 1/\(gt14 exS19.T 0).t = ((0:Nat):Int):=⟨rfl,rfl,rfl⟩
 have b1:¬ ((gt14 exS19.T 1).u = true/\(gt14 exS19.T 1).k = 1/\(gt14 exS19.T 1).t = ((0:Nat):Int)):=fun g => by have:=g.2.2; revert this; decide
 have d0:¬ ((gt14 exS19.T 0).u = true/\(gt14 exS19.T 0).k = 1/\(gt14 exS19.T 0).t = ((1:Nat):Int)):=fun g => by have:=g.2.2; revert this; decide
 have d1:(gt14 exS19.T 1).u = true/\(gt14 exS19.T 1).k = 1/\(gt14 exS19.T 1).t = ((1:Nat):Int):=⟨rfl,rfl,rfl⟩
 constructor
 ·
  rw [th18,show exS19.T.length = 2 from rfl,sumR,sumR,sumR,if_pos b0,if_neg b1,h0]
  grind
 ·
  rw [th18,show exS19.T.length = 2 from rfl,sumR,sumR,sumR,if_neg d0,if_pos d1,h1]
  grind
theorem exs19_bh0:bh16 exS19 0 false = [1]:=by
 have h0:bhb16 exS19 0 false 0 = false:=by
  cases h:bhb16 exS19 0 false 0 with
  | false => rfl
  | true => exact absurd rfl ((bhb16_chain exs19_fine exs19_t0).1 h).1
 have h1:bhb16 exS19 0 false 1 = true:=(bhb16_chain exs19_fine exs19_t1).2 ⟨by decide,0,by simp,rfl⟩;show all11 (bhb16 exS19 0 false) 2 = [1]
 simp [all11,List.range_succ,h0,h1]
theorem exs19_bh1:bh16 exS19 1 false = []:=by
 have h0:bhb16 exS19 1 false 0 = false:=by
  cases h:bhb16 exS19 1 false 0 with
  | false => rfl
  | true =>
   obtain ⟨_,x,hx,e⟩:=(bhb16_chain exs19_fine exs19_t0).1 h;have:x = 0:=by simpa using hx
   subst this;exact absurd e (by decide)
 have h1:bhb16 exS19 1 false 1 = false:=by
  cases h:bhb16 exS19 1 false 1 with
  | false => rfl
  | true => exact absurd rfl ((bhb16_chain exs19_fine exs19_t1).1 h).1
 show all11 (bhb16 exS19 1 false) 2 = []
 simp [all11,List.range_succ,h0,h1]
theorem exs19_car {wC wT:Nat->Rat} (h:Wo18 exS19 wC wT):qr18 (car19 exS19 (th18 exS19 wT) 0) = (7,1)/\qr18 (car19 exS19 (th18 exS19 wT) 1) = (4,1):=by
 obtain ⟨h0,h1⟩:=exs19_th h;constructor
 ·
  rw [car19_list exs19_fine _ (show 0 < exS19.H.length by decide),show ((0:Nat):Int) = 0 from rfl,exs19_bh0,show [1].length = 1 from rfl,tsum18,tsum18,show nth [1] 0 = 1 from rfl,h0,h1,show (3:Rat) + (0 + 4) = ((7:Nat):Rat) by grind];exact qr18_nat 7
 ·
  rw [car19_list exs19_fine _ (show 1 < exS19.H.length by decide),show ((1:Nat):Int) = 1 from rfl,exs19_bh1,show ([]:List Nat).length = 0 from rfl,tsum18,h1,show (4:Rat) + 0 = ((4:Nat):Rat) by grind];exact qr18_nat 4
theorem exs19_tot:qr18 ((amt17 exS19 0 exS19.T.length:Int):Rat) = (7,1):=by
 rw [show exS19.T.length = 2 from rfl,exs19_a0];exact qr18_nat 7
theorem exs19_cw {wT:Nat->Rat}:qr18 (cw19 exS19 (th18 exS19 wT) 5) = (0,1):=by
 unfold cw19;rw [if_neg (by decide +kernel)];exact qr18_zero
theorem share19l (a t:Int) (w:World):Calls Tryz.prog 29 #[.int .i64 a,.int .i64 t] w fun e w' => e = .returned (.agg #[.bool true,.int .i64 0,.int .i64 a,.int .i64 1,.int .i64 t,.bool true])/\Below w.heap.size w w':=by
 have hb:=b1' w (.cells #[.bool false,.int .i64 0,.int .i64 0,.int .i64 0,.int .i64 0,.bool false] 55);have hk:=Blk.new w 55 #[.bool false,.int .i64 0,.int .i64 0,.int .i64 0,.int .i64 0,.bool false];obtain ⟨W1,hW1⟩:=exq (w.alloc (.cells #[.bool false,.int .i64 0,.int .i64 0,.int .i64 0,.int .i64 0,.bool false] 55));rw [hW1] at hb hk
 obtain ⟨x0,x1,x2,x3,x4,x5⟩:=ce6 hk;have f0:=hk.frozen 0;have f1:=hk.frozen 1;have f2:=hk.frozen 2;have f3:=hk.frozen 3;have f4:=hk.frozen 4;have f5:=hk.frozen 5;have HK:=qz hk;have HB:=qz hb;clear hk hb;go_enter Tryz.func29,Tryz.ntmps29;go_wp2_with fail
 have hp:=(((((HK.out.set_ 0 (.bool true)).set_ 1 (.int .i64 0)).set_ 2 (.int .i64 a)).set_ 3 (.int .i64 1)).set_ 4 (.int .i64 t)).set_ 5 (.bool true);obtain ⟨q0,q1,q2,q3,q4,q5⟩:=ce6 hp
 refine bodyPost_ret (v:=.agg #[.bool true,.int .i64 0,.int .i64 a,.int .i64 1,.int .i64 t,.bool true]) (by simp [results,Tryz.results29,go_sem,q0,q1,q2,q3,q4,q5]) rfl ⟨rfl,?_⟩;have hle:w.heap.size<=w.heap.size:=Nat.le_refl _
 exact (((((HB.out.setCell (p:=⟨w.heap.size,0,none⟩) hle _).setCell (p:=⟨w.heap.size,1,none⟩) hle _).setCell (p:=⟨w.heap.size,2,none⟩) hle _).setCell (p:=⟨w.heap.size,3,none⟩) hle _).setCell (p:=⟨w.heap.size,4,none⟩) hle _).setCell (p:=⟨w.heap.size,5,none⟩) hle _
def t19_1:Value:=.agg #[.bool true,.int .i64 0,.int .i64 3,.int .i64 1,.int .i64 0,.bool true]
def t19_2:Value:=.agg #[.bool true,.int .i64 0,.int .i64 4,.int .i64 1,.int .i64 1,.bool true]
def e19_0 (g:Nat):Nat × TypeId × Array Value:=(g,4,#[.bool true])
theorem al19_0 {wc wn:World} (l1 l2:List (Nat × TypeId × Array Value)) (h:Fs18 wc wn (l1 ++ l2)):Fs18 wc (wn.alloc (.cells #[.bool true] 4)) (l1 ++ e19_0 wn.heap.size :: l2):=h.al l1 l2 _ _
def e19_3 (g:Nat):Nat × TypeId × Array Value:=(g,55,#[.bool true,.int .i64 0,.int .i64 3,.int .i64 1,.int .i64 0,.bool true,.bool true,.int .i64 0,.int .i64 4,.int .i64 1,.int .i64 1,.bool true])
theorem al19_3 {wc wn:World} (l1 l2:List (Nat × TypeId × Array Value)) (h:Fs18 wc wn (l1 ++ l2)):Fs18 wc (wn.alloc (.cells #[.bool true,.int .i64 0,.int .i64 3,.int .i64 1,.int .i64 0,.bool true,.bool true,.int .i64 0,.int .i64 4,.int .i64 1,.int .i64 1,.bool true] 55)) (l1 ++ e19_3 wn.heap.size :: l2):=h.al l1 l2 _ _
def e19_6 (g:Nat):Nat × TypeId × Array Value:=(g,60,#[.int .i64 2,.int .i64 (-1),.int .i64 1,.int .i64 1,.int .i64 1,.int .i64 4,.int .i64 0,.int .i64 (-1),.int .i64 1,.int .i64 1])
theorem al19_6 {wc wn:World} (l1 l2:List (Nat × TypeId × Array Value)) (h:Fs18 wc wn (l1 ++ l2)):Fs18 wc (wn.alloc (.cells #[.int .i64 2,.int .i64 (-1),.int .i64 1,.int .i64 1,.int .i64 1,.int .i64 4,.int .i64 0,.int .i64 (-1),.int .i64 1,.int .i64 1] 60)) (l1 ++ e19_6 wn.heap.size :: l2):=h.al l1 l2 _ _
def e19_8 (g:Nat):Nat × TypeId × Array Value:=(g,28,#[.slice none 0 0,.slice none 0 0,.slice none 0 0,.slice none 0 0,.slice none 0 0,.int .i64 0])
theorem al19_8 {wc wn:World} (l1 l2:List (Nat × TypeId × Array Value)) (h:Fs18 wc wn (l1 ++ l2)):Fs18 wc (wn.alloc (.cells #[.slice none 0 0,.slice none 0 0,.slice none 0 0,.slice none 0 0,.slice none 0 0,.int .i64 0] 28)) (l1 ++ e19_8 wn.heap.size :: l2):=h.al l1 l2 _ _
section
variable {t0 t1 t2 t3 t4 t5 t6 t7 t8 t9 t10 t11 t12 t13 t14 t15 t16 t17 t18 t19 t20 t21 t22 t23 t24 t25 t26 t27 t28 t29 t30 t31 t32 t33 t34 t35 t36 t37 t38 t39 t40 t41 t42 t43 t44 t45:Value}
variable {Q:Exit->Act->World->Prop}
def ops19as:{ o:Array Oper // (match Go.Func.body Tryz.f8 with | some c => regionOf17 c 3 | none => none) = some o }:=⟨_,rfl⟩
def ops19a:Array Oper:=ops19as.1
theorem built19 {wc:World} {ga gb:Nat} (ha:Blk wc ga 60 #[.int .i64 2,.int .i64 (-1),.int .i64 1,.int .i64 1,.int .i64 1]) (hb:Blk wc gb 60 #[.int .i64 4,.int .i64 0,.int .i64 (-1),.int .i64 1,.int .i64 1])
  (hP:∀ c a d v w,Q (.panic c) (Act.put a (some d) v) w->Q (.panic c) a w)
  (hQ:∀ (x7 x8 x9 x10 x11 x12 x13 x14:Value) (g0 g3 g6 g8:Nat) (wn:World),Below wc.heap.size wc wn->Blk wn g8 28 #[.slice (some ⟨g0,0,none⟩) 1 1,.slice (some ⟨g3,0,none⟩) 2 2,.slice (some ⟨g6,0,none⟩) 2 2,.slice none 0 0,.slice none 0 0,.int .i64 5]->Blk wn g0 4 #[.bool true]->Blk wn g3 55 #[.bool true,.int .i64 0,.int .i64 3,.int .i64 1,.int .i64 0,.bool true,.bool true,.int .i64 0,.int .i64 4,.int .i64 1,.int .i64 1,.bool true]->Blk wn g6 60 #[.int .i64 2,.int .i64 (-1),.int .i64 1,.int .i64 1,.int .i64 1,.int .i64 4,.int .i64 0,.int .i64 (-1),.int .i64 1,.int .i64 1]->Q .normal { tmps:=#[.bool false,.pointer (some ⟨ga,0,none⟩),.pointer (some ⟨gb,0,none⟩),.pointer (some ⟨g8,0,none⟩),t4,t5,t6,x7,x8,x9,x10,x11,x12,x13,x14,t15,t16,t17,t18,t19,t20,t21,t22,t23,t24,t25,t26,t27,t28,t29,t30,t31,t32,t33,t34,t35,t36,t37,t38,t39,t40,t41,t42,t43,t44,t45],defers:=[] } wn) :
  (Code.region 3 ops19a true).wp Tryz.prog Q { tmps:=#[.bool false,.pointer (some ⟨ga,0,none⟩),.pointer (some ⟨gb,0,none⟩),t3,t4,t5,t6,t7,t8,t9,t10,t11,t12,t13,t14,t15,t16,t17,t18,t19,t20,t21,t22,t23,t24,t25,t26,t27,t28,t29,t30,t31,t32,t33,t34,t35,t36,t37,t38,t39,t40,t41,t42,t43,t44,t45],defers:=[] } wc:=by
 have HA:=qz ha;have HB:=qz hb;clear ha hb;have hst:Below wc.heap.size wc wc.drew:=(Below.refl _ _).drew;have HBS:=qz hst;refine wp_region_held_drew (S:=fun W => Below wc.heap.size wc W) (by kernel_rfl) hst (fun hHeld => ?_)
 change wpAnyH _ _ ops19a _ _ 10 #[false,false,false,false,false,false,false,false,false,false] _ _
 obtain ⟨wn,hwn⟩:=exq wc.drew;rw [hwn] at HBS hHeld;rw [hwn];clear hwn hst;refine tkp hP 4 (v:=?_) (fun W hS => ?_) ?_;rotate_left
 ·
  try dsimp only at hS
  have z0:=(hS.cell (p:=⟨ga,0,none⟩) HA.out.lt).trans (HA.out.cell 0);have z1:=(hS.cell (p:=⟨ga,1,none⟩) HA.out.lt).trans (HA.out.cell 1);have z2:=(hS.cell (p:=⟨ga,2,none⟩) HA.out.lt).trans (HA.out.cell 2);have z3:=(hS.cell (p:=⟨ga,3,none⟩) HA.out.lt).trans (HA.out.cell 3);have z4:=(hS.cell (p:=⟨ga,4,none⟩) HA.out.lt).trans (HA.out.cell 4);go_simp
  try with_reducible rfl
 try simp only [Act.put,pt1,pt2,pt3]
 refine tkp hP 5 (v:=?_) (fun W hS => ?_) ?_;rotate_left
 ·
  try dsimp only at hS
  have z0:=(hS.cell (p:=⟨gb,0,none⟩) HB.out.lt).trans (HB.out.cell 0);have z1:=(hS.cell (p:=⟨gb,1,none⟩) HB.out.lt).trans (HB.out.cell 1);have z2:=(hS.cell (p:=⟨gb,2,none⟩) HB.out.lt).trans (HB.out.cell 2);have z3:=(hS.cell (p:=⟨gb,3,none⟩) HB.out.lt).trans (HB.out.cell 3);have z4:=(hS.cell (p:=⟨gb,4,none⟩) HB.out.lt).trans (HB.out.cell 4);go_simp
  try with_reducible rfl
 try simp only [Act.put,pt1,pt2,pt3]
 refine memo (fun a G => ∀ (wn:World) (g0 g3 g6 g8:Nat),Fs18 wc wn [e19_0 g0,e19_3 g3,e19_6 g6,e19_8 g8]->G ((((((a.put (some 7) (.slice (some ⟨g0,0,none⟩) 1 1)).put (some 8) t19_1).put (some 9) t19_2).put (some 10) (.slice (some ⟨g3,0,none⟩) 2 2)).put (some 13) (.slice (some ⟨g6,0,none⟩) 2 2)).put (some 3) (.pointer (some ⟨g8,0,none⟩))) wn) 2 #[true,true,true,true,true,true,true,false,true,false] ?_ ?_
 ·
  try simp only [Act.put,pt1,pt2,pt3]; try simp only [t19_1,t19_2]
  intro wn g0 g3 g6 g8 HW;have HW:=qz HW;obtain ⟨hB,hL⟩:=HW.out;obtain ⟨hk0,hf0⟩:=hL (e19_0 g0) (by simp);have HK0:Hid (Blk wn g0 4 #[.bool true]):=qz hk0;have HF0:Hid (wc.heap.size<=g0):=qz hf0;obtain ⟨hk3,hf3⟩:=hL (e19_3 g3) (by simp)
  have HK3:Hid (Blk wn g3 55 #[.bool true,.int .i64 0,.int .i64 3,.int .i64 1,.int .i64 0,.bool true,.bool true,.int .i64 0,.int .i64 4,.int .i64 1,.int .i64 1,.bool true]):=qz hk3;have HF3:Hid (wc.heap.size<=g3):=qz hf3;obtain ⟨hk6,hf6⟩:=hL (e19_6 g6) (by simp)
  have HK6:Hid (Blk wn g6 60 #[.int .i64 2,.int .i64 (-1),.int .i64 1,.int .i64 1,.int .i64 1,.int .i64 4,.int .i64 0,.int .i64 (-1),.int .i64 1,.int .i64 1]):=qz hk6;have HF6:Hid (wc.heap.size<=g6):=qz hf6;obtain ⟨hk8,hf8⟩:=hL (e19_8 g8) (by simp)
  have HK8:Hid (Blk wn g8 28 #[.slice none 0 0,.slice none 0 0,.slice none 0 0,.slice none 0 0,.slice none 0 0,.int .i64 0]):=qz hk8;have HF8:Hid (wc.heap.size<=g8):=qz hf8;have HBS:=qz hB;clear HW hB hL hk0 hf0 hk3 hf3 hk6 hf6 hk8 hf8;refine tkpq hP 7 ?_;refine rdy 9 (fun K hK => ?_);have x0:=HK8.out.cell 0;have y0:=HK8.out.frozen 0;have x1:=HK8.out.cell 1
  have y1:=HK8.out.frozen 1;have x2:=HK8.out.cell 2;have y2:=HK8.out.frozen 2;have x3:=HK8.out.cell 3;have y3:=HK8.out.frozen 3;have x4:=HK8.out.cell 4;have y4:=HK8.out.frozen 4;have x5:=HK8.out.cell 5;have y5:=HK8.out.frozen 5;go_simp
  obtain ⟨wm,hwm⟩:=exq ((((((wn.setCell ⟨g8,0,none⟩ (.slice (some ⟨g0,0,none⟩) 1 1)).setCell ⟨g8,1,none⟩ (.slice (some ⟨g3,0,none⟩) 2 2)).setCell ⟨g8,2,none⟩ (.slice (some ⟨g6,0,none⟩) 2 2)).setCell ⟨g8,3,none⟩ (.slice none 0 0)).setCell ⟨g8,4,none⟩ (.slice none 0 0)).setCell ⟨g8,5,none⟩ (.int .i64 5))
  have HK0:=qz (show Blk wm g0 4 #[.bool true] by rw [<- hwm]; exact ((((((HK0.out.far (blk_ne12 HK0.out HK8.out (by decide)) _).far (blk_ne12 HK0.out HK8.out (by decide)) _).far (blk_ne12 HK0.out HK8.out (by decide)) _).far (blk_ne12 HK0.out HK8.out (by decide)) _).far (blk_ne12 HK0.out HK8.out (by decide)) _).far (blk_ne12 HK0.out HK8.out (by decide)) _))
  have HK3:=qz (show Blk wm g3 55 #[.bool true,.int .i64 0,.int .i64 3,.int .i64 1,.int .i64 0,.bool true,.bool true,.int .i64 0,.int .i64 4,.int .i64 1,.int .i64 1,.bool true] by rw [<- hwm]; exact ((((((HK3.out.far (blk_ne12 HK3.out HK8.out (by decide)) _).far (blk_ne12 HK3.out HK8.out (by decide)) _).far (blk_ne12 HK3.out HK8.out (by decide)) _).far (blk_ne12 HK3.out HK8.out (by decide)) _).far (blk_ne12 HK3.out HK8.out (by decide)) _).far (blk_ne12 HK3.out HK8.out (by decide)) _))
  have HK6:=qz (show Blk wm g6 60 #[.int .i64 2,.int .i64 (-1),.int .i64 1,.int .i64 1,.int .i64 1,.int .i64 4,.int .i64 0,.int .i64 (-1),.int .i64 1,.int .i64 1] by rw [<- hwm]; exact ((((((HK6.out.far (blk_ne12 HK6.out HK8.out (by decide)) _).far (blk_ne12 HK6.out HK8.out (by decide)) _).far (blk_ne12 HK6.out HK8.out (by decide)) _).far (blk_ne12 HK6.out HK8.out (by decide)) _).far (blk_ne12 HK6.out HK8.out (by decide)) _).far (blk_ne12 HK6.out HK8.out (by decide)) _))
  have hp:=(((((HK8.out.set_ 0 (.slice (some ⟨g0,0,none⟩) 1 1)).set_ 1 (.slice (some ⟨g3,0,none⟩) 2 2)).set_ 2 (.slice (some ⟨g6,0,none⟩) 2 2)).set_ 3 (.slice none 0 0)).set_ 4 (.slice none 0 0)).set_ 5 (.int .i64 5);rw [hwm] at hp
  have HK8:Hid (Blk wm g8 28 #[.slice (some ⟨g0,0,none⟩) 1 1,.slice (some ⟨g3,0,none⟩) 2 2,.slice (some ⟨g6,0,none⟩) 2 2,.slice none 0 0,.slice none 0 0,.int .i64 5]):=qz hp
  have HBS:=qz (show Below wc.heap.size wc wm by rw [<- hwm]; exact (((((HBS.out.setCell (p:=⟨g8,0,none⟩) HF8.out _).setCell (p:=⟨g8,1,none⟩) HF8.out _).setCell (p:=⟨g8,2,none⟩) HF8.out _).setCell (p:=⟨g8,3,none⟩) HF8.out _).setCell (p:=⟨g8,4,none⟩) HF8.out _).setCell (p:=⟨g8,5,none⟩) HF8.out _);rw [hwm];clear hp hwm x0 y0 x1 y1 x2 y2 x3 y3 x4 y4 x5 y5
  refine koq hK HBS.out (fun hHeld=>?_);clear hK K;refine wpAnyH_done (by kernel_rfl) ?_ _;exact hQ _ _ _ _ _ _ _ _ g0 g3 g6 g8 wm HBS.out HK8.out HK0.out HK3.out HK6.out
 intro key
 (try dsimp only [Act.put] at key); try simp only [pt1,pt2,pt3] at key
 have K_0_1_2_3_6_8:=qz key;clear key
 refine memo (fun a G => ∀ (wn:World) (g0 g6 g8:Nat),Fs18 wc wn [e19_0 g0,e19_6 g6,e19_8 g8]->G (((((a.put (some 7) (.slice (some ⟨g0,0,none⟩) 1 1)).put (some 8) t19_1).put (some 9) t19_2).put (some 13) (.slice (some ⟨g6,0,none⟩) 2 2)).put (some 3) (.pointer (some ⟨g8,0,none⟩))) wn) 3 #[true,true,true,false,true,true,true,false,true,false] ?_ ?_
 ·
  try simp only [Act.put,pt1,pt2,pt3]; try simp only [t19_1,t19_2]
  intro wn g0 g6 g8 HW;have HW:=qz HW;refine rdy 3 (fun K hK => ?_);go_simp;have hw:=al19_3 [e19_0 g0] [e19_6 g6,e19_8 g8] HW.out;refine koq hK hw.1 (fun hHeld=>?_);exact K_0_1_2_3_6_8.out _ _ _ _ _ hw
 intro key
 (try dsimp only [Act.put] at key); try simp only [pt1,pt2,pt3] at key
 have K_0_1_2_6_8:=qz key;clear key
 refine memo (fun a G => ∀ (wn:World) (g0 g3 g6:Nat),Fs18 wc wn [e19_0 g0,e19_3 g3,e19_6 g6]->G (((((a.put (some 7) (.slice (some ⟨g0,0,none⟩) 1 1)).put (some 8) t19_1).put (some 9) t19_2).put (some 10) (.slice (some ⟨g3,0,none⟩) 2 2)).put (some 13) (.slice (some ⟨g6,0,none⟩) 2 2)) wn) 3 #[true,true,true,true,true,true,true,false,false,false] ?_ ?_
 ·
  try simp only [Act.put,pt1,pt2,pt3]; try simp only [t19_1,t19_2]
  intro wn g0 g3 g6 HW;have HW:=qz HW;have HBS:=qz HW.out.1;refine tkpq hP 7 ?_;refine rdy 8 (fun K hK => ?_);go_simp;have hw:=al19_8 [e19_0 g0,e19_3 g3,e19_6 g6] [] (by simpa using HW.out);refine hK.out _ _ hw.1 (fun hHeld => ?_);clear hK K HBS
  try simp only [Act.put,pt1,pt2,pt3]
  have HW:=qz hw;clear hw;obtain ⟨g8,hg8⟩:=exq wn.heap.size;obtain ⟨wm,hwm⟩:=exq (wn.alloc (.cells #[.slice none 0 0,.slice none 0 0,.slice none 0 0,.slice none 0 0,.slice none 0 0,.int .i64 0] 28));rw [hg8,hwm] at HW
  try rw [hg8]
  try rw [hwm]
  try rw [hwm] at hHeld
  clear hg8 hwm;obtain ⟨wn,hwn⟩:∃ W,W = wm:=⟨_,rfl⟩
  subst hwn;obtain ⟨hB,hL⟩:=HW.out;obtain ⟨hk0,hf0⟩:=hL (e19_0 g0) (by simp);have HK0:Hid (Blk wn g0 4 #[.bool true]):=qz hk0;have HF0:Hid (wc.heap.size<=g0):=qz hf0;obtain ⟨hk3,hf3⟩:=hL (e19_3 g3) (by simp)
  have HK3:Hid (Blk wn g3 55 #[.bool true,.int .i64 0,.int .i64 3,.int .i64 1,.int .i64 0,.bool true,.bool true,.int .i64 0,.int .i64 4,.int .i64 1,.int .i64 1,.bool true]):=qz hk3;have HF3:Hid (wc.heap.size<=g3):=qz hf3;obtain ⟨hk6,hf6⟩:=hL (e19_6 g6) (by simp)
  have HK6:Hid (Blk wn g6 60 #[.int .i64 2,.int .i64 (-1),.int .i64 1,.int .i64 1,.int .i64 1,.int .i64 4,.int .i64 0,.int .i64 (-1),.int .i64 1,.int .i64 1]):=qz hk6;have HF6:Hid (wc.heap.size<=g6):=qz hf6;obtain ⟨hk8,hf8⟩:=hL (e19_8 g8) (by simp)
  have HK8:Hid (Blk wn g8 28 #[.slice none 0 0,.slice none 0 0,.slice none 0 0,.slice none 0 0,.slice none 0 0,.int .i64 0]):=qz hk8;have HF8:Hid (wc.heap.size<=g8):=qz hf8;have HBS:=qz hB;clear HW hB hL hk0 hf0 hk3 hf3 hk6 hf6 hk8 hf8;refine rdy 9 (fun K hK => ?_);have x0:=HK8.out.cell 0;have y0:=HK8.out.frozen 0;have x1:=HK8.out.cell 1
  have y1:=HK8.out.frozen 1;have x2:=HK8.out.cell 2;have y2:=HK8.out.frozen 2;have x3:=HK8.out.cell 3;have y3:=HK8.out.frozen 3;have x4:=HK8.out.cell 4;have y4:=HK8.out.frozen 4;have x5:=HK8.out.cell 5;have y5:=HK8.out.frozen 5;go_simp
  obtain ⟨wm,hwm⟩:=exq ((((((wn.setCell ⟨g8,0,none⟩ (.slice (some ⟨g0,0,none⟩) 1 1)).setCell ⟨g8,1,none⟩ (.slice (some ⟨g3,0,none⟩) 2 2)).setCell ⟨g8,2,none⟩ (.slice (some ⟨g6,0,none⟩) 2 2)).setCell ⟨g8,3,none⟩ (.slice none 0 0)).setCell ⟨g8,4,none⟩ (.slice none 0 0)).setCell ⟨g8,5,none⟩ (.int .i64 5))
  have HK0:=qz (show Blk wm g0 4 #[.bool true] by rw [<- hwm]; exact ((((((HK0.out.far (blk_ne12 HK0.out HK8.out (by decide)) _).far (blk_ne12 HK0.out HK8.out (by decide)) _).far (blk_ne12 HK0.out HK8.out (by decide)) _).far (blk_ne12 HK0.out HK8.out (by decide)) _).far (blk_ne12 HK0.out HK8.out (by decide)) _).far (blk_ne12 HK0.out HK8.out (by decide)) _))
  have HK3:=qz (show Blk wm g3 55 #[.bool true,.int .i64 0,.int .i64 3,.int .i64 1,.int .i64 0,.bool true,.bool true,.int .i64 0,.int .i64 4,.int .i64 1,.int .i64 1,.bool true] by rw [<- hwm]; exact ((((((HK3.out.far (blk_ne12 HK3.out HK8.out (by decide)) _).far (blk_ne12 HK3.out HK8.out (by decide)) _).far (blk_ne12 HK3.out HK8.out (by decide)) _).far (blk_ne12 HK3.out HK8.out (by decide)) _).far (blk_ne12 HK3.out HK8.out (by decide)) _).far (blk_ne12 HK3.out HK8.out (by decide)) _))
  have HK6:=qz (show Blk wm g6 60 #[.int .i64 2,.int .i64 (-1),.int .i64 1,.int .i64 1,.int .i64 1,.int .i64 4,.int .i64 0,.int .i64 (-1),.int .i64 1,.int .i64 1] by rw [<- hwm]; exact ((((((HK6.out.far (blk_ne12 HK6.out HK8.out (by decide)) _).far (blk_ne12 HK6.out HK8.out (by decide)) _).far (blk_ne12 HK6.out HK8.out (by decide)) _).far (blk_ne12 HK6.out HK8.out (by decide)) _).far (blk_ne12 HK6.out HK8.out (by decide)) _).far (blk_ne12 HK6.out HK8.out (by decide)) _))
  have hp:=(((((HK8.out.set_ 0 (.slice (some ⟨g0,0,none⟩) 1 1)).set_ 1 (.slice (some ⟨g3,0,none⟩) 2 2)).set_ 2 (.slice (some ⟨g6,0,none⟩) 2 2)).set_ 3 (.slice none 0 0)).set_ 4 (.slice none 0 0)).set_ 5 (.int .i64 5);rw [hwm] at hp
  have HK8:Hid (Blk wm g8 28 #[.slice (some ⟨g0,0,none⟩) 1 1,.slice (some ⟨g3,0,none⟩) 2 2,.slice (some ⟨g6,0,none⟩) 2 2,.slice none 0 0,.slice none 0 0,.int .i64 5]):=qz hp
  have HBS:=qz (show Below wc.heap.size wc wm by rw [<- hwm]; exact (((((HBS.out.setCell (p:=⟨g8,0,none⟩) HF8.out _).setCell (p:=⟨g8,1,none⟩) HF8.out _).setCell (p:=⟨g8,2,none⟩) HF8.out _).setCell (p:=⟨g8,3,none⟩) HF8.out _).setCell (p:=⟨g8,4,none⟩) HF8.out _).setCell (p:=⟨g8,5,none⟩) HF8.out _);rw [hwm];clear hp hwm x0 y0 x1 y1 x2 y2 x3 y3 x4 y4 x5 y5
  refine koq hK HBS.out (fun hHeld=>?_);clear hK K;refine wpAnyH_done (by kernel_rfl) ?_ _;exact hQ _ _ _ _ _ _ _ _ g0 g3 g6 g8 wm HBS.out HK8.out HK0.out HK3.out HK6.out
 intro key
 (try dsimp only [Act.put] at key); try simp only [pt1,pt2,pt3] at key
 have K_0_1_2_3_6:=qz key;clear key
 refine memo (fun a G => ∀ (wn:World) (g0 g3 g8:Nat),Fs18 wc wn [e19_0 g0,e19_3 g3,e19_8 g8]->G (((((a.put (some 7) (.slice (some ⟨g0,0,none⟩) 1 1)).put (some 8) t19_1).put (some 9) t19_2).put (some 10) (.slice (some ⟨g3,0,none⟩) 2 2)).put (some 3) (.pointer (some ⟨g8,0,none⟩))) wn) 3 #[true,true,true,true,true,true,false,false,true,false] ?_ ?_
 ·
  try simp only [Act.put,pt1,pt2,pt3]; try simp only [t19_1,t19_2]
  intro wn g0 g3 g8 HW;have HW:=qz HW;refine rdy 6 (fun K hK => ?_);go_simp;have hw:=al19_6 [e19_0 g0,e19_3 g3] [e19_8 g8] HW.out;refine koq hK hw.1 (fun hHeld=>?_);exact K_0_1_2_3_6_8.out _ _ _ _ _ hw
 intro key
 (try dsimp only [Act.put] at key); try simp only [pt1,pt2,pt3] at key
 have K_0_1_2_3_8:=qz key;clear key
 refine memo (fun a G => ∀ (wn:World) (g3 g6 g8:Nat),Fs18 wc wn [e19_3 g3,e19_6 g6,e19_8 g8]->G (((((a.put (some 8) t19_1).put (some 9) t19_2).put (some 10) (.slice (some ⟨g3,0,none⟩) 2 2)).put (some 13) (.slice (some ⟨g6,0,none⟩) 2 2)).put (some 3) (.pointer (some ⟨g8,0,none⟩))) wn) 3 #[false,true,true,true,true,true,true,false,true,false] ?_ ?_
 ·
  try simp only [Act.put,pt1,pt2,pt3]; try simp only [t19_1,t19_2]
  intro wn g3 g6 g8 HW;have HW:=qz HW;refine rdy 0 (fun K hK => ?_);go_simp;have hw:=al19_0 [] [e19_3 g3,e19_6 g6,e19_8 g8] HW.out;refine koq hK hw.1 (fun hHeld=>?_);exact K_0_1_2_3_6_8.out _ _ _ _ _ hw
 intro key
 (try dsimp only [Act.put] at key); try simp only [pt1,pt2,pt3] at key
 have K_1_2_3_6_8:=qz key;clear key
 refine memo (fun a G => ∀ (wn:World) (g0 g6 g8:Nat),Fs18 wc wn [e19_0 g0,e19_6 g6,e19_8 g8]->G ((((a.put (some 7) (.slice (some ⟨g0,0,none⟩) 1 1)).put (some 8) t19_1).put (some 13) (.slice (some ⟨g6,0,none⟩) 2 2)).put (some 3) (.pointer (some ⟨g8,0,none⟩))) wn) 4 #[true,true,false,false,true,true,true,false,true,false] ?_ ?_
 ·
  try simp only [Act.put,pt1,pt2,pt3]; try simp only [t19_1,t19_2]
  intro wn g0 g6 g8 HW;have HW:=qz HW;refine rdy 2 (fun K hK => ?_);go_simp;refine (share19l _ _ _).mono ?_;rintro en w2 ⟨rfl,hb⟩;have hw:=HW.out.ca hb;refine koq hK hw.1 (fun hHeld=>?_);exact K_0_1_2_6_8.out _ _ _ _ hw
 intro key
 (try dsimp only [Act.put] at key); try simp only [pt1,pt2,pt3] at key
 have K_0_1_6_8:=qz key;clear key;refine memo (fun a G => ∀ (wn:World) (g0 g6:Nat),Fs18 wc wn [e19_0 g0,e19_6 g6]->G ((((a.put (some 7) (.slice (some ⟨g0,0,none⟩) 1 1)).put (some 8) t19_1).put (some 9) t19_2).put (some 13) (.slice (some ⟨g6,0,none⟩) 2 2)) wn) 4 #[true,true,true,false,true,true,true,false,false,false] ?_ ?_
 ·
  try simp only [Act.put,pt1,pt2,pt3]; try simp only [t19_1,t19_2]
  intro wn g0 g6 HW;have HW:=qz HW;refine wpAnyH_ready (rs:=[3,8]) (by kernel_rfl) (by simp) (rc (fun K hK => ?_) (rc (fun K hK => ?_) AllReadyH.nil))
  ·
   skip;go_simp;have hw:=al19_3 [e19_0 g0] [e19_6 g6] HW.out;refine koq hK hw.1 (fun hHeld=>?_);exact K_0_1_2_3_6.out _ _ _ _ hw
  ·
   skip;go_simp;have hw:=al19_8 [e19_0 g0,e19_6 g6] [] HW.out;refine koq hK hw.1 (fun hHeld=>?_);exact K_0_1_2_6_8.out _ _ _ _ hw
 intro key
 (try dsimp only [Act.put] at key); try simp only [pt1,pt2,pt3] at key
 have K_0_1_2_6:=qz key;clear key;refine memo (fun a G => ∀ (wn:World) (g0 g8:Nat),Fs18 wc wn [e19_0 g0,e19_8 g8]->G ((((a.put (some 7) (.slice (some ⟨g0,0,none⟩) 1 1)).put (some 8) t19_1).put (some 9) t19_2).put (some 3) (.pointer (some ⟨g8,0,none⟩))) wn) 4 #[true,true,true,false,true,true,false,false,true,false] ?_ ?_
 ·
  try simp only [Act.put,pt1,pt2,pt3]; try simp only [t19_1,t19_2]
  intro wn g0 g8 HW;have HW:=qz HW;refine wpAnyH_ready (rs:=[3,6]) (by kernel_rfl) (by simp) (rc (fun K hK => ?_) (rc (fun K hK => ?_) AllReadyH.nil))
  ·
   skip;go_simp;have hw:=al19_3 [e19_0 g0] [e19_8 g8] HW.out;refine koq hK hw.1 (fun hHeld=>?_);exact K_0_1_2_3_8.out _ _ _ _ hw
  ·
   skip;go_simp;have hw:=al19_6 [e19_0 g0] [e19_8 g8] HW.out;refine koq hK hw.1 (fun hHeld=>?_);exact K_0_1_2_6_8.out _ _ _ _ hw
 intro key
 (try dsimp only [Act.put] at key); try simp only [pt1,pt2,pt3] at key
 have K_0_1_2_8:=qz key;clear key;refine memo (fun a G => ∀ (wn:World) (g6 g8:Nat),Fs18 wc wn [e19_6 g6,e19_8 g8]->G ((((a.put (some 8) t19_1).put (some 9) t19_2).put (some 13) (.slice (some ⟨g6,0,none⟩) 2 2)).put (some 3) (.pointer (some ⟨g8,0,none⟩))) wn) 4 #[false,true,true,false,true,true,true,false,true,false] ?_ ?_
 ·
  try simp only [Act.put,pt1,pt2,pt3]; try simp only [t19_1,t19_2]
  intro wn g6 g8 HW;have HW:=qz HW;refine wpAnyH_ready (rs:=[0,3]) (by kernel_rfl) (by simp) (rc (fun K hK => ?_) (rc (fun K hK => ?_) AllReadyH.nil))
  ·
   skip;go_simp;have hw:=al19_0 [] [e19_6 g6,e19_8 g8] HW.out;refine koq hK hw.1 (fun hHeld=>?_);exact K_0_1_2_6_8.out _ _ _ _ hw
  ·
   skip;go_simp;have hw:=al19_3 [] [e19_6 g6,e19_8 g8] HW.out;refine koq hK hw.1 (fun hHeld=>?_);exact K_1_2_3_6_8.out _ _ _ _ hw
 intro key
 (try dsimp only [Act.put] at key); try simp only [pt1,pt2,pt3] at key
 have K_1_2_6_8:=qz key;clear key;refine memo (fun a G => ∀ (wn:World) (g0 g3:Nat),Fs18 wc wn [e19_0 g0,e19_3 g3]->G ((((a.put (some 7) (.slice (some ⟨g0,0,none⟩) 1 1)).put (some 8) t19_1).put (some 9) t19_2).put (some 10) (.slice (some ⟨g3,0,none⟩) 2 2)) wn) 4 #[true,true,true,true,true,true,false,false,false,false] ?_ ?_
 ·
  try simp only [Act.put,pt1,pt2,pt3]; try simp only [t19_1,t19_2]
  intro wn g0 g3 HW;have HW:=qz HW;refine wpAnyH_ready (rs:=[6,8]) (by kernel_rfl) (by simp) (rc (fun K hK => ?_) (rc (fun K hK => ?_) AllReadyH.nil))
  ·
   skip;go_simp;have hw:=al19_6 [e19_0 g0,e19_3 g3] [] HW.out;refine koq hK hw.1 (fun hHeld=>?_);exact K_0_1_2_3_6.out _ _ _ _ hw
  ·
   skip;go_simp;have hw:=al19_8 [e19_0 g0,e19_3 g3] [] HW.out;refine koq hK hw.1 (fun hHeld=>?_);exact K_0_1_2_3_8.out _ _ _ _ hw
 intro key
 (try dsimp only [Act.put] at key); try simp only [pt1,pt2,pt3] at key
 have K_0_1_2_3:=qz key;clear key;refine memo (fun a G => ∀ (wn:World) (g3 g6:Nat),Fs18 wc wn [e19_3 g3,e19_6 g6]->G ((((a.put (some 8) t19_1).put (some 9) t19_2).put (some 10) (.slice (some ⟨g3,0,none⟩) 2 2)).put (some 13) (.slice (some ⟨g6,0,none⟩) 2 2)) wn) 4 #[false,true,true,true,true,true,true,false,false,false] ?_ ?_
 ·
  try simp only [Act.put,pt1,pt2,pt3]; try simp only [t19_1,t19_2]
  intro wn g3 g6 HW;have HW:=qz HW;refine wpAnyH_ready (rs:=[0,8]) (by kernel_rfl) (by simp) (rc (fun K hK => ?_) (rc (fun K hK => ?_) AllReadyH.nil))
  ·
   skip;go_simp;have hw:=al19_0 [] [e19_3 g3,e19_6 g6] HW.out;refine koq hK hw.1 (fun hHeld=>?_);exact K_0_1_2_3_6.out _ _ _ _ hw
  ·
   skip;go_simp;have hw:=al19_8 [e19_3 g3,e19_6 g6] [] HW.out;refine koq hK hw.1 (fun hHeld=>?_);exact K_1_2_3_6_8.out _ _ _ _ hw
 intro key
 (try dsimp only [Act.put] at key); try simp only [pt1,pt2,pt3] at key
 have K_1_2_3_6:=qz key;clear key;refine memo (fun a G => ∀ (wn:World) (g3 g8:Nat),Fs18 wc wn [e19_3 g3,e19_8 g8]->G ((((a.put (some 8) t19_1).put (some 9) t19_2).put (some 10) (.slice (some ⟨g3,0,none⟩) 2 2)).put (some 3) (.pointer (some ⟨g8,0,none⟩))) wn) 4 #[false,true,true,true,true,true,false,false,true,false] ?_ ?_
 ·
  try simp only [Act.put,pt1,pt2,pt3]; try simp only [t19_1,t19_2]
  intro wn g3 g8 HW;have HW:=qz HW;refine wpAnyH_ready (rs:=[0,6]) (by kernel_rfl) (by simp) (rc (fun K hK => ?_) (rc (fun K hK => ?_) AllReadyH.nil))
  ·
   skip;go_simp;have hw:=al19_0 [] [e19_3 g3,e19_8 g8] HW.out;refine koq hK hw.1 (fun hHeld=>?_);exact K_0_1_2_3_8.out _ _ _ _ hw
  ·
   skip;go_simp;have hw:=al19_6 [e19_3 g3] [e19_8 g8] HW.out;refine koq hK hw.1 (fun hHeld=>?_);exact K_1_2_3_6_8.out _ _ _ _ hw
 intro key
 (try dsimp only [Act.put] at key); try simp only [pt1,pt2,pt3] at key
 have K_1_2_3_8:=qz key;clear key;refine memo (fun a G => ∀ (wn:World) (g0 g6 g8:Nat),Fs18 wc wn [e19_0 g0,e19_6 g6,e19_8 g8]->G (((a.put (some 7) (.slice (some ⟨g0,0,none⟩) 1 1)).put (some 13) (.slice (some ⟨g6,0,none⟩) 2 2)).put (some 3) (.pointer (some ⟨g8,0,none⟩))) wn) 5 #[true,false,false,false,true,true,true,false,true,false] ?_ ?_
 ·
  try simp only [Act.put,pt1,pt2,pt3]
  intro wn g0 g6 g8 HW;have HW:=qz HW;refine rdy 1 (fun K hK => ?_);go_simp;refine (share19l _ _ _).mono ?_;rintro en w2 ⟨rfl,hb⟩;have hw:=HW.out.ca hb;refine koq hK hw.1 (fun hHeld=>?_);exact K_0_1_6_8.out _ _ _ _ hw
 intro key
 (try dsimp only [Act.put] at key); try simp only [pt1,pt2,pt3] at key
 have K_0_6_8:=qz key;clear key;refine memo (fun a G => ∀ (wn:World) (g0 g6:Nat),Fs18 wc wn [e19_0 g0,e19_6 g6]->G (((a.put (some 7) (.slice (some ⟨g0,0,none⟩) 1 1)).put (some 8) t19_1).put (some 13) (.slice (some ⟨g6,0,none⟩) 2 2)) wn) 5 #[true,true,false,false,true,true,true,false,false,false] ?_ ?_
 ·
  try simp only [Act.put,pt1,pt2,pt3]; try simp only [t19_1,t19_2]
  intro wn g0 g6 HW;have HW:=qz HW;refine wpAnyH_ready (rs:=[2,8]) (by kernel_rfl) (by simp) (rc (fun K hK => ?_) (rc (fun K hK => ?_) AllReadyH.nil))
  ·
   skip;go_simp;refine (share19l _ _ _).mono ?_;rintro en w2 ⟨rfl,hb⟩;have hw:=HW.out.ca hb;refine koq hK hw.1 (fun hHeld=>?_);exact K_0_1_2_6.out _ _ _ hw
  ·
   skip;go_simp;have hw:=al19_8 [e19_0 g0,e19_6 g6] [] HW.out;refine koq hK hw.1 (fun hHeld=>?_);exact K_0_1_6_8.out _ _ _ _ hw
 intro key
 (try dsimp only [Act.put] at key); try simp only [pt1,pt2,pt3] at key
 have K_0_1_6:=qz key;clear key;refine memo (fun a G => ∀ (wn:World) (g0 g8:Nat),Fs18 wc wn [e19_0 g0,e19_8 g8]->G (((a.put (some 7) (.slice (some ⟨g0,0,none⟩) 1 1)).put (some 8) t19_1).put (some 3) (.pointer (some ⟨g8,0,none⟩))) wn) 5 #[true,true,false,false,true,true,false,false,true,false] ?_ ?_
 ·
  try simp only [Act.put,pt1,pt2,pt3]; try simp only [t19_1,t19_2]
  intro wn g0 g8 HW;have HW:=qz HW;refine wpAnyH_ready (rs:=[2,6]) (by kernel_rfl) (by simp) (rc (fun K hK => ?_) (rc (fun K hK => ?_) AllReadyH.nil))
  ·
   skip;go_simp;refine (share19l _ _ _).mono ?_;rintro en w2 ⟨rfl,hb⟩;have hw:=HW.out.ca hb;refine koq hK hw.1 (fun hHeld=>?_);exact K_0_1_2_8.out _ _ _ hw
  ·
   skip;go_simp;have hw:=al19_6 [e19_0 g0] [e19_8 g8] HW.out;refine koq hK hw.1 (fun hHeld=>?_);exact K_0_1_6_8.out _ _ _ _ hw
 intro key
 (try dsimp only [Act.put] at key); try simp only [pt1,pt2,pt3] at key
 have K_0_1_8:=qz key;clear key;refine memo (fun a G => ∀ (wn:World) (g6 g8:Nat),Fs18 wc wn [e19_6 g6,e19_8 g8]->G (((a.put (some 8) t19_1).put (some 13) (.slice (some ⟨g6,0,none⟩) 2 2)).put (some 3) (.pointer (some ⟨g8,0,none⟩))) wn) 5 #[false,true,false,false,true,true,true,false,true,false] ?_ ?_
 ·
  try simp only [Act.put,pt1,pt2,pt3]; try simp only [t19_1,t19_2]
  intro wn g6 g8 HW;have HW:=qz HW;refine wpAnyH_ready (rs:=[0,2]) (by kernel_rfl) (by simp) (rc (fun K hK => ?_) (rc (fun K hK => ?_) AllReadyH.nil))
  ·
   skip;go_simp;have hw:=al19_0 [] [e19_6 g6,e19_8 g8] HW.out;refine koq hK hw.1 (fun hHeld=>?_);exact K_0_1_6_8.out _ _ _ _ hw
  ·
   skip;go_simp;refine (share19l _ _ _).mono ?_;rintro en w2 ⟨rfl,hb⟩;have hw:=HW.out.ca hb;refine koq hK hw.1 (fun hHeld=>?_);exact K_1_2_6_8.out _ _ _ hw
 intro key
 (try dsimp only [Act.put] at key); try simp only [pt1,pt2,pt3] at key
 have K_1_6_8:=qz key;clear key;refine memo (fun a G => ∀ (wn:World) (g0:Nat),Fs18 wc wn [e19_0 g0]->G (((a.put (some 7) (.slice (some ⟨g0,0,none⟩) 1 1)).put (some 8) t19_1).put (some 9) t19_2) wn) 5 #[true,true,true,false,true,true,false,false,false,false] ?_ ?_
 ·
  try simp only [Act.put,pt1,pt2,pt3]; try simp only [t19_1,t19_2]
  intro wn g0 HW;have HW:=qz HW;refine wpAnyH_ready (rs:=[3,6,8]) (by kernel_rfl) (by simp) (rc (fun K hK => ?_) (rc (fun K hK => ?_) (rc (fun K hK => ?_) AllReadyH.nil)))
  ·
   skip;go_simp;have hw:=al19_3 [e19_0 g0] [] HW.out;refine koq hK hw.1 (fun hHeld=>?_);exact K_0_1_2_3.out _ _ _ hw
  ·
   skip;go_simp;have hw:=al19_6 [e19_0 g0] [] HW.out;refine koq hK hw.1 (fun hHeld=>?_);exact K_0_1_2_6.out _ _ _ hw
  ·
   skip;go_simp;have hw:=al19_8 [e19_0 g0] [] HW.out;refine koq hK hw.1 (fun hHeld=>?_);exact K_0_1_2_8.out _ _ _ hw
 intro key
 (try dsimp only [Act.put] at key); try simp only [pt1,pt2,pt3] at key
 have K_0_1_2:=qz key;clear key;refine memo (fun a G => ∀ (wn:World) (g6:Nat),Fs18 wc wn [e19_6 g6]->G (((a.put (some 8) t19_1).put (some 9) t19_2).put (some 13) (.slice (some ⟨g6,0,none⟩) 2 2)) wn) 5 #[false,true,true,false,true,true,true,false,false,false] ?_ ?_
 ·
  try simp only [Act.put,pt1,pt2,pt3]; try simp only [t19_1,t19_2]
  intro wn g6 HW;have HW:=qz HW;refine wpAnyH_ready (rs:=[0,3,8]) (by kernel_rfl) (by simp) (rc (fun K hK => ?_) (rc (fun K hK => ?_) (rc (fun K hK => ?_) AllReadyH.nil)))
  ·
   skip;go_simp;have hw:=al19_0 [] [e19_6 g6] HW.out;refine koq hK hw.1 (fun hHeld=>?_);exact K_0_1_2_6.out _ _ _ hw
  ·
   skip;go_simp;have hw:=al19_3 [] [e19_6 g6] HW.out;refine koq hK hw.1 (fun hHeld=>?_);exact K_1_2_3_6.out _ _ _ hw
  ·
   skip;go_simp;have hw:=al19_8 [e19_6 g6] [] HW.out;refine koq hK hw.1 (fun hHeld=>?_);exact K_1_2_6_8.out _ _ _ hw
 intro key
 (try dsimp only [Act.put] at key); try simp only [pt1,pt2,pt3] at key
 have K_1_2_6:=qz key;clear key;refine memo (fun a G => ∀ (wn:World) (g8:Nat),Fs18 wc wn [e19_8 g8]->G (((a.put (some 8) t19_1).put (some 9) t19_2).put (some 3) (.pointer (some ⟨g8,0,none⟩))) wn) 5 #[false,true,true,false,true,true,false,false,true,false] ?_ ?_
 ·
  try simp only [Act.put,pt1,pt2,pt3]; try simp only [t19_1,t19_2]
  intro wn g8 HW;have HW:=qz HW;refine wpAnyH_ready (rs:=[0,3,6]) (by kernel_rfl) (by simp) (rc (fun K hK => ?_) (rc (fun K hK => ?_) (rc (fun K hK => ?_) AllReadyH.nil)))
  ·
   skip;go_simp;have hw:=al19_0 [] [e19_8 g8] HW.out;refine koq hK hw.1 (fun hHeld=>?_);exact K_0_1_2_8.out _ _ _ hw
  ·
   skip;go_simp;have hw:=al19_3 [] [e19_8 g8] HW.out;refine koq hK hw.1 (fun hHeld=>?_);exact K_1_2_3_8.out _ _ _ hw
  ·
   skip;go_simp;have hw:=al19_6 [] [e19_8 g8] HW.out;refine koq hK hw.1 (fun hHeld=>?_);exact K_1_2_6_8.out _ _ _ hw
 intro key
 (try dsimp only [Act.put] at key); try simp only [pt1,pt2,pt3] at key
 have K_1_2_8:=qz key;clear key;refine memo (fun a G => ∀ (wn:World) (g3:Nat),Fs18 wc wn [e19_3 g3]->G (((a.put (some 8) t19_1).put (some 9) t19_2).put (some 10) (.slice (some ⟨g3,0,none⟩) 2 2)) wn) 5 #[false,true,true,true,true,true,false,false,false,false] ?_ ?_
 ·
  try simp only [Act.put,pt1,pt2,pt3]; try simp only [t19_1,t19_2]
  intro wn g3 HW;have HW:=qz HW;refine wpAnyH_ready (rs:=[0,6,8]) (by kernel_rfl) (by simp) (rc (fun K hK => ?_) (rc (fun K hK => ?_) (rc (fun K hK => ?_) AllReadyH.nil)))
  ·
   skip;go_simp;have hw:=al19_0 [] [e19_3 g3] HW.out;refine koq hK hw.1 (fun hHeld=>?_);exact K_0_1_2_3.out _ _ _ hw
  ·
   skip;go_simp;have hw:=al19_6 [e19_3 g3] [] HW.out;refine koq hK hw.1 (fun hHeld=>?_);exact K_1_2_3_6.out _ _ _ hw
  ·
   skip;go_simp;have hw:=al19_8 [e19_3 g3] [] HW.out;refine koq hK hw.1 (fun hHeld=>?_);exact K_1_2_3_8.out _ _ _ hw
 intro key
 (try dsimp only [Act.put] at key); try simp only [pt1,pt2,pt3] at key
 have K_1_2_3:=qz key;clear key;refine memo (fun a G => ∀ (wn:World) (g0 g6:Nat),Fs18 wc wn [e19_0 g0,e19_6 g6]->G ((a.put (some 7) (.slice (some ⟨g0,0,none⟩) 1 1)).put (some 13) (.slice (some ⟨g6,0,none⟩) 2 2)) wn) 6 #[true,false,false,false,true,true,true,false,false,false] ?_ ?_
 ·
  try simp only [Act.put,pt1,pt2,pt3]
  intro wn g0 g6 HW;have HW:=qz HW;refine wpAnyH_ready (rs:=[1,8]) (by kernel_rfl) (by simp) (rc (fun K hK => ?_) (rc (fun K hK => ?_) AllReadyH.nil))
  ·
   skip;go_simp;refine (share19l _ _ _).mono ?_;rintro en w2 ⟨rfl,hb⟩;have hw:=HW.out.ca hb;refine koq hK hw.1 (fun hHeld=>?_);exact K_0_1_6.out _ _ _ hw
  ·
   skip;go_simp;have hw:=al19_8 [e19_0 g0,e19_6 g6] [] HW.out;refine koq hK hw.1 (fun hHeld=>?_);exact K_0_6_8.out _ _ _ _ hw
 intro key
 (try dsimp only [Act.put] at key); try simp only [pt1,pt2,pt3] at key
 have K_0_6:=qz key;clear key;refine memo (fun a G => ∀ (wn:World) (g0 g8:Nat),Fs18 wc wn [e19_0 g0,e19_8 g8]->G ((a.put (some 7) (.slice (some ⟨g0,0,none⟩) 1 1)).put (some 3) (.pointer (some ⟨g8,0,none⟩))) wn) 6 #[true,false,false,false,true,true,false,false,true,false] ?_ ?_
 ·
  try simp only [Act.put,pt1,pt2,pt3]
  intro wn g0 g8 HW;have HW:=qz HW;refine wpAnyH_ready (rs:=[1,6]) (by kernel_rfl) (by simp) (rc (fun K hK => ?_) (rc (fun K hK => ?_) AllReadyH.nil))
  ·
   skip;go_simp;refine (share19l _ _ _).mono ?_;rintro en w2 ⟨rfl,hb⟩;have hw:=HW.out.ca hb;refine koq hK hw.1 (fun hHeld=>?_);exact K_0_1_8.out _ _ _ hw
  ·
   skip;go_simp;have hw:=al19_6 [e19_0 g0] [e19_8 g8] HW.out;refine koq hK hw.1 (fun hHeld=>?_);exact K_0_6_8.out _ _ _ _ hw
 intro key
 (try dsimp only [Act.put] at key); try simp only [pt1,pt2,pt3] at key
 have K_0_8:=qz key;clear key;refine memo (fun a G => ∀ (wn:World) (g6 g8:Nat),Fs18 wc wn [e19_6 g6,e19_8 g8]->G ((a.put (some 13) (.slice (some ⟨g6,0,none⟩) 2 2)).put (some 3) (.pointer (some ⟨g8,0,none⟩))) wn) 6 #[false,false,false,false,true,true,true,false,true,false] ?_ ?_
 ·
  try simp only [Act.put,pt1,pt2,pt3]
  intro wn g6 g8 HW;have HW:=qz HW;refine wpAnyH_ready (rs:=[0,1]) (by kernel_rfl) (by simp) (rc (fun K hK => ?_) (rc (fun K hK => ?_) AllReadyH.nil))
  ·
   skip;go_simp;have hw:=al19_0 [] [e19_6 g6,e19_8 g8] HW.out;refine koq hK hw.1 (fun hHeld=>?_);exact K_0_6_8.out _ _ _ _ hw
  ·
   skip;go_simp;refine (share19l _ _ _).mono ?_;rintro en w2 ⟨rfl,hb⟩;have hw:=HW.out.ca hb;refine koq hK hw.1 (fun hHeld=>?_);exact K_1_6_8.out _ _ _ hw
 intro key
 (try dsimp only [Act.put] at key); try simp only [pt1,pt2,pt3] at key
 have K_6_8:=qz key;clear key;refine memo (fun a G => ∀ (wn:World) (g0:Nat),Fs18 wc wn [e19_0 g0]->G ((a.put (some 7) (.slice (some ⟨g0,0,none⟩) 1 1)).put (some 8) t19_1) wn) 6 #[true,true,false,false,true,true,false,false,false,false] ?_ ?_
 ·
  try simp only [Act.put,pt1,pt2,pt3]; try simp only [t19_1,t19_2]
  intro wn g0 HW;have HW:=qz HW;refine wpAnyH_ready (rs:=[2,6,8]) (by kernel_rfl) (by simp) (rc (fun K hK => ?_) (rc (fun K hK => ?_) (rc (fun K hK => ?_) AllReadyH.nil)))
  ·
   skip;go_simp;refine (share19l _ _ _).mono ?_;rintro en w2 ⟨rfl,hb⟩;have hw:=HW.out.ca hb;refine koq hK hw.1 (fun hHeld=>?_);exact K_0_1_2.out _ _ hw
  ·
   skip;go_simp;have hw:=al19_6 [e19_0 g0] [] HW.out;refine koq hK hw.1 (fun hHeld=>?_);exact K_0_1_6.out _ _ _ hw
  ·
   skip;go_simp;have hw:=al19_8 [e19_0 g0] [] HW.out;refine koq hK hw.1 (fun hHeld=>?_);exact K_0_1_8.out _ _ _ hw
 intro key
 (try dsimp only [Act.put] at key); try simp only [pt1,pt2,pt3] at key
 have K_0_1:=qz key;clear key;refine memo (fun a G => ∀ (wn:World) (g6:Nat),Fs18 wc wn [e19_6 g6]->G ((a.put (some 8) t19_1).put (some 13) (.slice (some ⟨g6,0,none⟩) 2 2)) wn) 6 #[false,true,false,false,true,true,true,false,false,false] ?_ ?_
 ·
  try simp only [Act.put,pt1,pt2,pt3]; try simp only [t19_1,t19_2]
  intro wn g6 HW;have HW:=qz HW;refine wpAnyH_ready (rs:=[0,2,8]) (by kernel_rfl) (by simp) (rc (fun K hK => ?_) (rc (fun K hK => ?_) (rc (fun K hK => ?_) AllReadyH.nil)))
  ·
   skip;go_simp;have hw:=al19_0 [] [e19_6 g6] HW.out;refine koq hK hw.1 (fun hHeld=>?_);exact K_0_1_6.out _ _ _ hw
  ·
   skip;go_simp;refine (share19l _ _ _).mono ?_;rintro en w2 ⟨rfl,hb⟩;have hw:=HW.out.ca hb;refine koq hK hw.1 (fun hHeld=>?_);exact K_1_2_6.out _ _ hw
  ·
   skip;go_simp;have hw:=al19_8 [e19_6 g6] [] HW.out;refine koq hK hw.1 (fun hHeld=>?_);exact K_1_6_8.out _ _ _ hw
 intro key
 (try dsimp only [Act.put] at key); try simp only [pt1,pt2,pt3] at key
 have K_1_6:=qz key;clear key;refine memo (fun a G => ∀ (wn:World) (g8:Nat),Fs18 wc wn [e19_8 g8]->G ((a.put (some 8) t19_1).put (some 3) (.pointer (some ⟨g8,0,none⟩))) wn) 6 #[false,true,false,false,true,true,false,false,true,false] ?_ ?_
 ·
  try simp only [Act.put,pt1,pt2,pt3]; try simp only [t19_1,t19_2]
  intro wn g8 HW;have HW:=qz HW;refine wpAnyH_ready (rs:=[0,2,6]) (by kernel_rfl) (by simp) (rc (fun K hK => ?_) (rc (fun K hK => ?_) (rc (fun K hK => ?_) AllReadyH.nil)))
  ·
   skip;go_simp;have hw:=al19_0 [] [e19_8 g8] HW.out;refine koq hK hw.1 (fun hHeld=>?_);exact K_0_1_8.out _ _ _ hw
  ·
   skip;go_simp;refine (share19l _ _ _).mono ?_;rintro en w2 ⟨rfl,hb⟩;have hw:=HW.out.ca hb;refine koq hK hw.1 (fun hHeld=>?_);exact K_1_2_8.out _ _ hw
  ·
   skip;go_simp;have hw:=al19_6 [] [e19_8 g8] HW.out;refine koq hK hw.1 (fun hHeld=>?_);exact K_1_6_8.out _ _ _ hw
 intro key
 (try dsimp only [Act.put] at key); try simp only [pt1,pt2,pt3] at key
 have K_1_8:=qz key;clear key;refine memo (fun a G => ∀ (wn:World),Fs18 wc wn []->G ((a.put (some 8) t19_1).put (some 9) t19_2) wn) 6 #[false,true,true,false,true,true,false,false,false,false] ?_ ?_
 ·
  try simp only [Act.put,pt1,pt2,pt3]; try simp only [t19_1,t19_2]
  intro wn HW;have HW:=qz HW;refine wpAnyH_ready (rs:=[0,3,6,8]) (by kernel_rfl) (by simp) (rc (fun K hK => ?_) (rc (fun K hK => ?_) (rc (fun K hK => ?_) (rc (fun K hK => ?_) AllReadyH.nil))))
  ·
   skip;go_simp;have hw:=al19_0 [] [] HW.out;refine koq hK hw.1 (fun hHeld=>?_);exact K_0_1_2.out _ _ hw
  ·
   skip;go_simp;have hw:=al19_3 [] [] HW.out;refine koq hK hw.1 (fun hHeld=>?_);exact K_1_2_3.out _ _ hw
  ·
   skip;go_simp;have hw:=al19_6 [] [] HW.out;refine koq hK hw.1 (fun hHeld=>?_);exact K_1_2_6.out _ _ hw
  ·
   skip;go_simp;have hw:=al19_8 [] [] HW.out;refine koq hK hw.1 (fun hHeld=>?_);exact K_1_2_8.out _ _ hw
 intro key
 (try dsimp only [Act.put] at key); try simp only [pt1,pt2,pt3] at key
 have K_1_2:=qz key;clear key;refine memo (fun a G => ∀ (wn:World) (g0:Nat),Fs18 wc wn [e19_0 g0]->G (a.put (some 7) (.slice (some ⟨g0,0,none⟩) 1 1)) wn) 7 #[true,false,false,false,true,true,false,false,false,false] ?_ ?_
 ·
  try simp only [Act.put,pt1,pt2,pt3]
  intro wn g0 HW;have HW:=qz HW;refine wpAnyH_ready (rs:=[1,6,8]) (by kernel_rfl) (by simp) (rc (fun K hK => ?_) (rc (fun K hK => ?_) (rc (fun K hK => ?_) AllReadyH.nil)))
  ·
   skip;go_simp;refine (share19l _ _ _).mono ?_;rintro en w2 ⟨rfl,hb⟩;have hw:=HW.out.ca hb;refine koq hK hw.1 (fun hHeld=>?_);exact K_0_1.out _ _ hw
  ·
   skip;go_simp;have hw:=al19_6 [e19_0 g0] [] HW.out;refine koq hK hw.1 (fun hHeld=>?_);exact K_0_6.out _ _ _ hw
  ·
   skip;go_simp;have hw:=al19_8 [e19_0 g0] [] HW.out;refine koq hK hw.1 (fun hHeld=>?_);exact K_0_8.out _ _ _ hw
 intro key
 (try dsimp only [Act.put] at key); try simp only [pt1,pt2,pt3] at key
 have K_0:=qz key;clear key;refine memo (fun a G => ∀ (wn:World) (g6:Nat),Fs18 wc wn [e19_6 g6]->G (a.put (some 13) (.slice (some ⟨g6,0,none⟩) 2 2)) wn) 7 #[false,false,false,false,true,true,true,false,false,false] ?_ ?_
 ·
  try simp only [Act.put,pt1,pt2,pt3]
  intro wn g6 HW;have HW:=qz HW;refine wpAnyH_ready (rs:=[0,1,8]) (by kernel_rfl) (by simp) (rc (fun K hK => ?_) (rc (fun K hK => ?_) (rc (fun K hK => ?_) AllReadyH.nil)))
  ·
   skip;go_simp;have hw:=al19_0 [] [e19_6 g6] HW.out;refine koq hK hw.1 (fun hHeld=>?_);exact K_0_6.out _ _ _ hw
  ·
   skip;go_simp;refine (share19l _ _ _).mono ?_;rintro en w2 ⟨rfl,hb⟩;have hw:=HW.out.ca hb;refine koq hK hw.1 (fun hHeld=>?_);exact K_1_6.out _ _ hw
  ·
   skip;go_simp;have hw:=al19_8 [e19_6 g6] [] HW.out;refine koq hK hw.1 (fun hHeld=>?_);exact K_6_8.out _ _ _ hw
 intro key
 (try dsimp only [Act.put] at key); try simp only [pt1,pt2,pt3] at key
 have K_6:=qz key;clear key;refine memo (fun a G => ∀ (wn:World) (g8:Nat),Fs18 wc wn [e19_8 g8]->G (a.put (some 3) (.pointer (some ⟨g8,0,none⟩))) wn) 7 #[false,false,false,false,true,true,false,false,true,false] ?_ ?_
 ·
  try simp only [Act.put,pt1,pt2,pt3]
  intro wn g8 HW;have HW:=qz HW;refine wpAnyH_ready (rs:=[0,1,6]) (by kernel_rfl) (by simp) (rc (fun K hK => ?_) (rc (fun K hK => ?_) (rc (fun K hK => ?_) AllReadyH.nil)))
  ·
   skip;go_simp;have hw:=al19_0 [] [e19_8 g8] HW.out;refine koq hK hw.1 (fun hHeld=>?_);exact K_0_8.out _ _ _ hw
  ·
   skip;go_simp;refine (share19l _ _ _).mono ?_;rintro en w2 ⟨rfl,hb⟩;have hw:=HW.out.ca hb;refine koq hK hw.1 (fun hHeld=>?_);exact K_1_8.out _ _ hw
  ·
   skip;go_simp;have hw:=al19_6 [] [e19_8 g8] HW.out;refine koq hK hw.1 (fun hHeld=>?_);exact K_6_8.out _ _ _ hw
 intro key
 (try dsimp only [Act.put] at key); try simp only [pt1,pt2,pt3] at key
 have K_8:=qz key;clear key;refine memo (fun a G => ∀ (wn:World),Fs18 wc wn []->G (a.put (some 8) t19_1) wn) 7 #[false,true,false,false,true,true,false,false,false,false] ?_ ?_
 ·
  try simp only [Act.put,pt1,pt2,pt3]; try simp only [t19_1,t19_2]
  intro wn HW;have HW:=qz HW;refine wpAnyH_ready (rs:=[0,2,6,8]) (by kernel_rfl) (by simp) (rc (fun K hK => ?_) (rc (fun K hK => ?_) (rc (fun K hK => ?_) (rc (fun K hK => ?_) AllReadyH.nil))))
  ·
   skip;go_simp;have hw:=al19_0 [] [] HW.out;refine koq hK hw.1 (fun hHeld=>?_);exact K_0_1.out _ _ hw
  ·
   skip;go_simp;refine (share19l _ _ _).mono ?_;rintro en w2 ⟨rfl,hb⟩;have hw:=HW.out.ca hb;refine koq hK hw.1 (fun hHeld=>?_);exact K_1_2.out _ hw
  ·
   skip;go_simp;have hw:=al19_6 [] [] HW.out;refine koq hK hw.1 (fun hHeld=>?_);exact K_1_6.out _ _ hw
  ·
   skip;go_simp;have hw:=al19_8 [] [] HW.out;refine koq hK hw.1 (fun hHeld=>?_);exact K_1_8.out _ _ hw
 intro key
 (try dsimp only [Act.put] at key); try simp only [pt1,pt2,pt3] at key
 have K_1:=qz key;clear key;have HW:Hid (Fs18 wc wn []):=qz ⟨HBS.out,fun p hp => by simp at hp⟩;refine wpAnyH_ready (rs:=[0,1,6,8]) (by kernel_rfl) (by simp) (rc (fun K hK => ?_) (rc (fun K hK => ?_) (rc (fun K hK => ?_) (rc (fun K hK => ?_) AllReadyH.nil))))
 ·
  skip;go_simp;have hw:=al19_0 [] [] HW.out;refine koq hK hw.1 (fun hHeld=>?_);exact K_0.out _ _ hw
 ·
  skip;go_simp;refine (share19l _ _ _).mono ?_;rintro en w2 ⟨rfl,hb⟩;have hw:=HW.out.ca hb;refine koq hK hw.1 (fun hHeld=>?_);exact K_1.out _ hw
 ·
  skip;go_simp;have hw:=al19_6 [] [] HW.out;refine koq hK hw.1 (fun hHeld=>?_);exact K_6.out _ _ hw
 ·
  skip;go_simp;have hw:=al19_8 [] [] HW.out;refine koq hK hw.1 (fun hHeld=>?_);exact K_8.out _ _ hw
end
theorem int19_7 (W:World):Calls Tryz.prog 10 #[.int .u64 7] W (RetDB W 7 1):=int4_b 7 W (by omega)
theorem int19_4 (W:World):Calls Tryz.prog 10 #[.int .u64 4] W (RetDB W 4 1):=int4_b 4 W (by omega)
theorem exs19_sa {wn:World} {g0 g3 g6:Nat} (h0:Blk wn g0 4 #[.bool true]) (h3:Blk wn g3 55 #[.bool true,.int .i64 0,.int .i64 3,.int .i64 1,.int .i64 0,.bool true,.bool true,.int .i64 0,.int .i64 4,.int .i64 1,.int .i64 1,.bool true]) (h6:Blk wn g6 60 #[.int .i64 2,.int .i64 (-1),.int .i64 1,.int .i64 1,.int .i64 1,.int .i64 4,.int .i64 0,.int .i64 (-1),.int .i64 1,.int .i64 1]):SA14 wn exS19 (some ⟨g0,0,none⟩) (some ⟨g3,0,none⟩) (some ⟨g6,0,none⟩) none none 1 2 2 0 0 1 2 2 0 0 5:=by
 refine ⟨rfl,rfl,rfl,rfl,rfl,?_,?_,?_,Lq.nil _ _ _ _,Lq.nil _ _ _ _,by omega,by omega,by omega,by omega,by omega,by omega,by omega,by omega,by omega,by omega,rfl⟩
 ·
  refine fun _ => ⟨g0,0,rfl,h0.lt,fun k v hk => ?_⟩
  rw [Nat.zero_add,h0.cell];rw [show fl14 clC exS19.C = [.bool true] from rfl] at hk;simpa using hk
 ·
  refine fun _ => ⟨g3,0,rfl,h3.lt,fun k v hk => ?_⟩
  rw [Nat.zero_add,h3.cell];rw [show fl14 clT exS19.T = [.bool true,.int .i64 0,.int .i64 3,.int .i64 1,.int .i64 0,.bool true,.bool true,.int .i64 0,.int .i64 4,.int .i64 1,.int .i64 1,.bool true] from rfl] at hk;simpa using hk
 ·
  refine fun _ => ⟨g6,0,rfl,h6.lt,fun k v hk => ?_⟩
  rw [Nat.zero_add,h6.cell];rw [show fl14 clH exS19.H = [.int .i64 2,.int .i64 (-1),.int .i64 1,.int .i64 1,.int .i64 1,.int .i64 4,.int .i64 0,.int .i64 (-1),.int .i64 1,.int .i64 1] from rfl] at hk;simpa using hk
theorem alive19_any (w:World):Calls Tryz.prog 8 #[] w fun e w' => e = .returned (.bool true)/\Below w.heap.size w w':=by
 obtain ⟨wC,wT,hw⟩:=wo18_ex exs19_fine;have hb0:=b1' w (.cells #[.int .i64 2,.int .i64 (-1),.int .i64 1,.int .i64 1,.int .i64 1] 60);have hk0:=Blk.new w 60 #[.int .i64 2,.int .i64 (-1),.int .i64 1,.int .i64 1,.int .i64 1];have hz0:(w.alloc (.cells #[.int .i64 2,.int .i64 (-1),.int .i64 1,.int .i64 1,.int .i64 1] 60)).heap.size = w.heap.size + 1:=by simp
 obtain ⟨wa,hwa⟩:=exq (w.alloc (.cells #[.int .i64 2,.int .i64 (-1),.int .i64 1,.int .i64 1,.int .i64 1] 60));rw [hwa] at hb0 hk0 hz0;have hb1:=b1' wa (.cells #[.int .i64 4,.int .i64 0,.int .i64 (-1),.int .i64 1,.int .i64 1] 60);have hk1:=Blk.new wa 60 #[.int .i64 4,.int .i64 0,.int .i64 (-1),.int .i64 1,.int .i64 1]
 obtain ⟨wb,hwb⟩:=exq (wa.alloc (.cells #[.int .i64 4,.int .i64 0,.int .i64 (-1),.int .i64 1,.int .i64 1] 60));rw [hwb] at hb1 hk1;have HB0:=qz (hb0.trans (hb1.mono hb0.size));have HK0:=qz (hk0.below hb1 hk0.lt);have HK1:=qz hk1;have HWO:=qz hw;clear hb0 hk0 hb1 hk1 hw hz0;go_enter Tryz.func8,Tryz.ntmps8;go_upto_region 3 with (fail)
 try rw [hwa]
 try rw [hwb]
 refine built19 HK0.out HK1.out (fun _ _ _ _ _ h => h) (fun x7 x8 x9 x10 x11 x12 x13 x14 g0 g3 g6 g8 wn hbn h8 h0 h3 h6 => ?_);have HB1:Hid (Below w.heap.size w wn):=qz (HB0.out.trans (hbn.mono HB0.out.size));have HS1:=qz (exs19_sa h0 h3 h6);have HK8:=qz h8;obtain ⟨z0,z1,z2,z3,z4,z5⟩:=ce6 h8;clear hbn h8 h0 h3 h6 HB0 HK0 HK1 hwa hwb;go_wp2_with fail
 refine (all19 (.agg #[.slice (some ⟨g0,0,none⟩) 1 1,.slice (some ⟨g3,0,none⟩) 2 2,.slice (some ⟨g6,0,none⟩) 2 2,.slice none 0 0,.slice none 0 0,.int .i64 5]) exS19 wC wT wn ⟨_,_,_,_,_,_,_,_,_,_,_,_,_,_,_,_,rfl,HS1.out⟩ exs19_fine HWO.out).mono ?_;rintro e w4 ⟨go,rfl,hg,hr,hb4⟩;rw [show exS19.H.length = 2 from rfl] at hr ⊢
 have HB4:=qz (HB1.out.trans (hb4.mono HB1.out.size));have HS4:=qz (HS1.out.step hb4);have h84:=HK8.out.below hb4 HK8.out.lt;have HZ0:Hid (w4.cell? ⟨g8,0,none⟩ = some (.slice (some ⟨g0,0,none⟩) 1 1)):=qz (h84.cell 0);have HZ1:Hid (w4.cell? ⟨g8,1,none⟩ = some (.slice (some ⟨g3,0,none⟩) 2 2)):=qz (h84.cell 1)
 have HZ2:Hid (w4.cell? ⟨g8,2,none⟩ = some (.slice (some ⟨g6,0,none⟩) 2 2)):=qz (h84.cell 2);have HZ3:Hid (w4.cell? ⟨g8,3,none⟩ = some (.slice none 0 0)):=qz (h84.cell 3);have HZ4:Hid (w4.cell? ⟨g8,4,none⟩ = some (.slice none 0 0)):=qz (h84.cell 4);have HZ5:Hid (w4.cell? ⟨g8,5,none⟩ = some (.int .i64 5)):=qz (h84.cell 5)
 obtain ⟨C1,k1,r1,C2,k2,r2,e1,e2,v1,v2,_,_⟩:=hr.cells (k:=0) (by omega);obtain ⟨C3,k3,r3,C4,k4,r4,e3,e4,v3,v4,_,_⟩:=hr.cells (k:=1) (by omega);obtain ⟨ht0,ht1⟩:=exs19_car HWO.out
 try dsimp only at v1 v2 v3 v4
 rw [ht0] at v1 v2;rw [ht1] at v3 v4;have HC1:Hid (w4.cell? ⟨go,0,none⟩ = some (.slice C1 k1 r1)):=qz e1;have HC2:Hid (w4.cell? ⟨go,1,none⟩ = some (.slice C2 k2 r2)):=qz e2;have HC3:Hid (w4.cell? ⟨go,2,none⟩ = some (.slice C3 k3 r3)):=qz e3;have HC4:Hid (w4.cell? ⟨go,3,none⟩ = some (.slice C4 k4 r4)):=qz e4;have HV1:=qz v1;have HV2:=qz v2;have HV3:=qz v3
 have HV4:=qz v4
 have HT0:Hid (∀ W,Be18 w4 W->Calls Tryz.prog 18 #[(.agg #[.slice (some ⟨g0,0,none⟩) 1 1,.slice (some ⟨g3,0,none⟩) 2 2,.slice (some ⟨g6,0,none⟩) 2 2,.slice none 0 0,.slice none 0 0,.int .i64 5])] W (RetQ0 W 7 1)):=qz (fun W h => by
  have h1:=total19 (.agg #[.slice (some ⟨g0,0,none⟩) 1 1,.slice (some ⟨g3,0,none⟩) 2 2,.slice (some ⟨g6,0,none⟩) 2 2,.slice none 0 0,.slice none 0 0,.int .i64 5]) exS19 wC wT W ⟨_,_,_,_,_,_,_,_,_,_,_,_,_,_,_,_,rfl,HS4.out.step h.z⟩ exs19_fine HWO.out;rw [exs19_tot] at h1
  exact h1.mono (fun e w' h => h.q0))
 have HT9:Hid (∀ W,Be18 w4 W->Calls Tryz.prog 14 #[(.agg #[.slice (some ⟨g0,0,none⟩) 1 1,.slice (some ⟨g3,0,none⟩) 2 2,.slice (some ⟨g6,0,none⟩) 2 2,.slice none 0 0,.slice none 0 0,.int .i64 5]),.int .i64 5] W (RetQ0 W 0 1)):=qz (fun W h => by
  have h1:=at19 (.agg #[.slice (some ⟨g0,0,none⟩) 1 1,.slice (some ⟨g3,0,none⟩) 2 2,.slice (some ⟨g6,0,none⟩) 2 2,.slice none 0 0,.slice none 0 0,.int .i64 5]) exS19 wC wT 5 W ⟨_,_,_,_,_,_,_,_,_,_,_,_,_,_,_,_,rfl,HS4.out.step h.z⟩ exs19_fine HWO.out;rw [exs19_cw] at h1
  exact h1.mono (fun e w' h => h.q0))
 have HN4:Hid (Be18 w4 w4):=qz ⟨Below.refl _ _⟩;have hl36:(1:Nat) < 65536 ^ 36/\(7:Nat) < 65536 ^ 36/\(4:Nat) < 65536 ^ 36/\(0:Nat) < 65536 ^ 36:=by decide
 have HLT:=qz hl36;clear hg hr hb4 h84 e1 e2 e3 e4 v1 v2 v3 v4 ht0 ht1 HB1 HS1 HK8 z0 z1 z2 z3 z4 z5 hl36;have HXN:Hid (Be18 w4 w4.drew):=qz (HN4.out.step (Below.refl _ _).drew);clear HN4;obtain ⟨wn,hwn⟩:=exq w4.drew;rw [hwn] at HXN;go_wp2_with fail;refine wp_region_held_drew (S:=Be18 w4) (by kernel_rfl) (by rw [hwn]; exact HXN.out) (fun hHeld => ?_)
 rw [hwn] at hHeld ⊢;clear hwn;have HBS:=HXN;refine tkq 0 ?_;refine tkq 1 ?_;refine tkq 2 ?_;refine tkq 3 ?_;refine tkq 4 ?_;refine tkq 5 ?_;refine tk 6 (v:=?_) (fun W hS => ?_) ?_;rotate_left
 ·
  try dsimp only at hS
  have z0:=(hS.z.cell (World.block_lt_of_cell? _ _ HC1.out)).trans HC1.out;have z1:=(hS.z.cell (World.block_lt_of_cell? _ _ HC2.out)).trans HC2.out;go_simp
  try with_reducible rfl
 try simp only [Act.put,pt1,pt2,pt3]
 refine rdy 7 (fun K hK => ?_);have HBS0:=HBS;go_simp;refine (int19_7 wn).mono ?_;rintro e wn ⟨D1,i1,t1,D2,i2,t2,rfl,hx,hy,hb⟩;have HBS:=qz (HBS0.out.step hb);have HX:=qz hx;have HY:=qz hy;clear hb HBS0 hx hy;refine koq hK HBS.out (fun hHeld=>?_);clear hK K;refine rdy 8 (fun K hK => ?_);have HBS0:=HBS;go_simp
 refine (same18 wn (HV1.out.below HBS0.out.z) (HV2.out.below HBS0.out.z) HX.out HY.out HLT.out.2.1 HLT.out.1).mono ?_;rintro e wn ⟨rfl,hb⟩;have HBS:=qz (HBS0.out.step hb);clear hb HBS0 HX HY;refine koq hK HBS.out (fun hHeld=>?_);clear hK K;refine tkq 9 ?_;refine tkq 10 ?_;refine tkq 11 ?_;refine tkq 12 ?_;refine tk 13 (v:=?_) (fun W hS => ?_) ?_;rotate_left
 ·
  try dsimp only at hS
  have z0:=(hS.z.cell (World.block_lt_of_cell? _ _ HC3.out)).trans HC3.out;have z1:=(hS.z.cell (World.block_lt_of_cell? _ _ HC4.out)).trans HC4.out;go_simp
  try with_reducible rfl
 try simp only [Act.put,pt1,pt2,pt3]
 refine rdy 14 (fun K hK => ?_);have HBS0:=HBS;go_simp;refine (int19_4 wn).mono ?_;rintro e wn ⟨D1,i1,t1,D2,i2,t2,rfl,hx,hy,hb⟩;have HBS:=qz (HBS0.out.step hb);have HX:=qz hx;have HY:=qz hy;clear hb HBS0 hx hy;refine koq hK HBS.out (fun hHeld=>?_);clear hK K;refine rdy 15 (fun K hK => ?_);have HBS0:=HBS;go_simp
 refine (same18 wn (HV3.out.below HBS0.out.z) (HV4.out.below HBS0.out.z) HX.out HY.out HLT.out.2.2.1 HLT.out.1).mono ?_;rintro e wn ⟨rfl,hb⟩;have HBS:=qz (HBS0.out.step hb);clear hb HBS0 HX HY;refine koq hK HBS.out (fun hHeld=>?_);clear hK K;refine tkq 16 ?_;refine tkq 17 ?_;refine tk 18 (v:=?_) (fun W hS => ?_) ?_;rotate_left
 ·
  try dsimp only at hS
  have z0:=(hS.z.cell (World.block_lt_of_cell? _ _ HZ0.out)).trans HZ0.out;have z1:=(hS.z.cell (World.block_lt_of_cell? _ _ HZ1.out)).trans HZ1.out;have z2:=(hS.z.cell (World.block_lt_of_cell? _ _ HZ2.out)).trans HZ2.out;have z3:=(hS.z.cell (World.block_lt_of_cell? _ _ HZ3.out)).trans HZ3.out
  have z4:=(hS.z.cell (World.block_lt_of_cell? _ _ HZ4.out)).trans HZ4.out;have z5:=(hS.z.cell (World.block_lt_of_cell? _ _ HZ5.out)).trans HZ5.out;go_simp
  try with_reducible rfl
 try simp only [Act.put,pt1,pt2,pt3]
 refine rdy 19 (fun K hK => ?_);have HBS0:=HBS;go_simp;refine (HT0.out _ HBS0.out).mono ?_;rintro e wn ⟨E1,l1,s1,E2,l2,s2,rfl,hx,hy,hb⟩;have HBS:=qz (HBS0.out.step hb);have HU:=qz hx;have HW:=qz hy;clear hb HBS0 hx hy;refine koq hK HBS.out (fun hHeld=>?_);clear hK K;refine rdy 20 (fun K hK => ?_);have HBS0:=HBS;go_simp;refine (int19_7 wn).mono ?_
 rintro e wn ⟨D1,i1,t1,D2,i2,t2,rfl,hx,hy,hb⟩;have HBS:=qz (HBS0.out.step hb);have HU:=qz (HU.out.below hb);have HW:=qz (HW.out.below hb);have HX:=qz hx;have HY:=qz hy;clear hb HBS0 hx hy;refine koq hK HBS.out (fun hHeld=>?_);clear hK K;refine rdy 21 (fun K hK => ?_);have HBS0:=HBS;go_simp
 refine (same18 wn HU.out HW.out HX.out HY.out HLT.out.2.1 HLT.out.1).mono ?_;rintro e wn ⟨rfl,hb⟩;have HBS:=qz (HBS0.out.step hb);clear hb HBS0 HX HY;refine koq hK HBS.out (fun hHeld=>?_);clear hK K;refine tkq 22 ?_;refine tkq 23 ?_;refine tk 24 (v:=?_) (fun W hS => ?_) ?_;rotate_left
 ·
  try dsimp only at hS
  have z0:=(hS.z.cell (World.block_lt_of_cell? _ _ HZ0.out)).trans HZ0.out;have z1:=(hS.z.cell (World.block_lt_of_cell? _ _ HZ1.out)).trans HZ1.out;have z2:=(hS.z.cell (World.block_lt_of_cell? _ _ HZ2.out)).trans HZ2.out;have z3:=(hS.z.cell (World.block_lt_of_cell? _ _ HZ3.out)).trans HZ3.out
  have z4:=(hS.z.cell (World.block_lt_of_cell? _ _ HZ4.out)).trans HZ4.out;have z5:=(hS.z.cell (World.block_lt_of_cell? _ _ HZ5.out)).trans HZ5.out;go_simp
  try with_reducible rfl
 try simp only [Act.put,pt1,pt2,pt3]
 refine rdy 25 (fun K hK => ?_);have HBS0:=HBS;go_simp;refine (HT9.out _ HBS0.out).mono ?_;rintro e wn ⟨E1,l1,s1,E2,l2,s2,rfl,hx,hy,hb⟩;have HBS:=qz (HBS0.out.step hb);have HU:=qz hx;have HW:=qz hy;clear hb HBS0 hx hy;refine koq hK HBS.out (fun hHeld=>?_);clear hK K;refine rdy 26 (fun K hK => ?_);have HBS0:=HBS;go_simp;refine (int18_00 wn).mono ?_
 rintro e wn ⟨D1,i1,t1,D2,i2,t2,rfl,hx,hy,hb⟩;have HBS:=qz (HBS0.out.step hb);have HU:=qz (HU.out.below hb);have HW:=qz (HW.out.below hb);have HX:=qz hx;have HY:=qz hy;clear hb HBS0 hx hy;refine koq hK HBS.out (fun hHeld=>?_);clear hK K;refine rdy 27 (fun K hK => ?_);have HBS0:=HBS;go_simp
 refine (same18 wn HU.out HW.out HX.out HY.out HLT.out.2.2.2 HLT.out.1).mono ?_;rintro e wn ⟨rfl,hb⟩;have HBS:=qz (HBS0.out.step hb);clear hb HBS0 HX HY;refine koq hK HBS.out (fun hHeld=>?_);clear hK K;refine tkq 28 ?_;refine rdy 29 (fun K hK => ?_);go_simp;refine koq hK HBS.out (fun hHeld=>?_);clear hK K;refine wpAnyH_done (by kernel_rfl) ?_ _;clear hHeld
 clear HXN HC1 HC2 HC3 HC4 HV1 HV2 HV3 HV4;go_wp2_with fail;go_ret;exact ⟨rfl,HB4.out.trans (HBS.out.z.mono HB4.out.size)⟩
end
end Go.Proofs.YtkdmnlihpebbkaaGreat
