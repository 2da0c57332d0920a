/-
  For any state that may be, whose tickets are few enough for the document's answer: what those who can go on carry together is the base's active amount, and who waits carries no more than the one for whom it waits. No conditions.
-/
import Derived.Test.YtkdmnlihpebbkaaGreatCK24
import Derived.Deep.Slices
import Derived.Deep.Strs
import Derived.Test.YtkdmnlihpebbkaaGreatChecked
import Derived.ChangeMaps5
set_option linter.all false
set_option maxHeartbeats 16000000
namespace Go.Proofs.YtkdmnlihpebbkaaGreat
section
open Go.RowKit
set_option maxRecDepth 100000
structure Ly18 (w:World) (S:Sv14) (A0 A1 A2 A3 A4:Option Addr) (n0 n1 n2 n3 n4 c0 c1 c2 c3 c4:Nat) (sq:Int) (w3:World) (W:World):Prop where
 b:By16 w S A0 A1 A2 A3 A4 n0 n1 n2 n3 n4 c0 c1 c2 c3 c4 sq W
 z:Below w3.heap.size w3 W
theorem Ly18.step {w:World} {S:Sv14} {A0 A1 A2 A3 A4:Option Addr} {n0 n1 n2 n3 n4 c0 c1 c2 c3 c4:Nat} {sq:Int} {w3:World} {W W':World} (h:Ly18 w S A0 A1 A2 A3 A4 n0 n1 n2 n3 n4 c0 c1 c2 c3 c4 sq w3 W) (hb:Below W.heap.size W W'):Ly18 w S A0 A1 A2 A3 A4 n0 n1 n2 n3 n4 c0 c1 c2 c3 c4 sq w3 W':=⟨h.b.step hb,h.z.trans (hb.mono h.z.size)⟩
theorem cykeeps19_no1 (A0 A1 A2 A3 A4:Option Addr) (n0 n1 n2 n3 n4 c0 c1 c2 c3 c4:Nat) (sq:Int) (S:Sv14) (w:World) (hn:¬ Small14 n0 n1 n2 n3 n4) :
  Calls Tryz.prog 4 #[(.agg #[.slice A0 n0 c0,.slice A1 n1 c1,.slice A2 n2 c2,.slice A3 n3 c3,.slice A4 n4 c4,.int .i64 sq])] w fun e w' => e = .returned (.bool true)/\Below w.heap.size w w':=by
 have hb0:=b1' w (.cells #[.slice A0 n0 c0,.slice A1 n1 c1,.slice A2 n2 c2,.slice A3 n3 c3,.slice A4 n4 c4,.int .i64 sq] 28);have hk0:=Blk.new w 28 #[.slice A0 n0 c0,.slice A1 n1 c1,.slice A2 n2 c2,.slice A3 n3 c3,.slice A4 n4 c4,.int .i64 sq]
 obtain ⟨W0,hW0⟩:=exq (w.alloc (.cells #[.slice A0 n0 c0,.slice A1 n1 c1,.slice A2 n2 c2,.slice A3 n3 c3,.slice A4 n4 c4,.int .i64 sq] 28));rw [hW0] at hb0 hk0;obtain ⟨p0,p1,p2,p3,p4,p5⟩:=ce6 hk0;have HB0:=qz hb0;have HC:=qz (fun W => small14 A0 A1 A2 A3 A4 n0 n1 n2 n3 n4 c0 c1 c2 c3 c4 sq false W (by simp [hn]));clear hb0 hk0 hn
 go_enter Tryz.func4,Tryz.ntmps4;go_wp2_with fail;refine (HC.out _).mono ?_;rintro e u1 ⟨rfl,hb1⟩;have HB1:=qz (HB0.out.trans (hb1.mono HB0.out.size));clear hb1 HC;go_wp2_with fail;refine (alive19_any _).mono ?_;rintro e u2 ⟨rfl,hb2⟩;have HB2:=qz (HB1.out.trans (hb2.mono HB1.out.size));clear hb2;go_wp2_with fail;go_ret;exact ⟨rfl,HB2.out⟩
theorem cykeeps19_no2 (A0 A1 A2 A3 A4:Option Addr) (n0 n1 n2 n3 n4 c0 c1 c2 c3 c4:Nat) (sq:Int) (S:Sv14) (w:World) (hs:SA14 w S A0 A1 A2 A3 A4 n0 n1 n2 n3 n4 c0 c1 c2 c3 c4 sq) (hn:Small14 n0 n1 n2 n3 n4) (hg:light17 S = false) :
  Calls Tryz.prog 4 #[(.agg #[.slice A0 n0 c0,.slice A1 n1 c1,.slice A2 n2 c2,.slice A3 n3 c3,.slice A4 n4 c4,.int .i64 sq])] w fun e w' => e = .returned (.bool true)/\Below w.heap.size w w':=by
 have hx0:=Bx14.new hs;have hxn:=hx0.step (Below.refl _ _).drew;obtain ⟨W1,hW1⟩:=exq (w.alloc (.cells #[.slice A0 n0 c0,.slice A1 n1 c1,.slice A2 n2 c2,.slice A3 n3 c3,.slice A4 n4 c4,.int .i64 sq] 28));rw [hW1] at hx0 hxn;have HX0:=qz hx0;obtain ⟨p0,p1,p2,p3,p4,p5⟩:=ce6 hx0.x
 have HC:=qz (fun W => small14 A0 A1 A2 A3 A4 n0 n1 n2 n3 n4 c0 c1 c2 c3 c4 sq true W (by simp [hn]))
 have HD0:=qz (fun W (h:Bx14 w S A0 A1 A2 A3 A4 n0 n1 n2 n3 n4 c0 c1 c2 c3 c4 sq W) => (show Calls Tryz.prog 6 #[(.agg #[.slice A0 n0 c0,.slice A1 n1 c1,.slice A2 n2 c2,.slice A3 n3 c3,.slice A4 n4 c4,.int .i64 sq])] W fun e w' => e = .returned (.bool false)/\Below W.heap.size W w' from by have h1:=rlight17 (.agg #[.slice A0 n0 c0,.slice A1 n1 c1,.slice A2 n2 c2,.slice A3 n3 c3,.slice A4 n4 c4,.int .i64 sq]) S W h.st; rwa [hg] at h1))
 clear hs hx0 hxn hn hg;go_enter Tryz.func4,Tryz.ntmps4;go_wp2_with fail;refine (HC.out _).mono ?_;rintro e u1 ⟨rfl,hb1⟩;have HX1:=qz (HX0.out.step hb1);clear hb1 HC HX0 p0 p1 p2 p3 p4 p5;obtain ⟨q10,q11,q12,q13,q14,q15⟩:=ce6 HX1.out.x;go_wp2_with fail;refine (HD0.out _ HX1.out).mono ?_;rintro e u2 ⟨rfl,hb2⟩;have HX2:=qz (HX1.out.step hb2)
 clear hb2 HD0 HX1 q10 q11 q12 q13 q14 q15;go_wp2_with fail;refine (alive19_any _).mono ?_;rintro e u3 ⟨rfl,hb3⟩;have HX3:=qz (HX2.out.step hb3);clear hb3;go_wp2_with fail;go_ret;exact ⟨rfl,HX3.out.b⟩
theorem cykeeps19_no3 (A0 A1 A2 A3 A4:Option Addr) (n0 n1 n2 n3 n4 c0 c1 c2 c3 c4:Nat) (sq:Int) (S:Sv14) (w:World) (hs:SA14 w S A0 A1 A2 A3 A4 n0 n1 n2 n3 n4 c0 c1 c2 c3 c4 sq) (hn:Small14 n0 n1 n2 n3 n4) (hg:light17 S = true) (hf:¬ Fine14 S) :
  Calls Tryz.prog 4 #[(.agg #[.slice A0 n0 c0,.slice A1 n1 c1,.slice A2 n2 c2,.slice A3 n3 c3,.slice A4 n4 c4,.int .i64 sq])] w fun e w' => e = .returned (.bool true)/\Below w.heap.size w w':=by
 have hx0:=Bx14.new hs;have hxn:=hx0.step (Below.refl _ _).drew;obtain ⟨W1,hW1⟩:=exq (w.alloc (.cells #[.slice A0 n0 c0,.slice A1 n1 c1,.slice A2 n2 c2,.slice A3 n3 c3,.slice A4 n4 c4,.int .i64 sq] 28));rw [hW1] at hx0 hxn;have HX0:=qz hx0;obtain ⟨p0,p1,p2,p3,p4,p5⟩:=ce6 hx0.x
 have HC:=qz (fun W => small14 A0 A1 A2 A3 A4 n0 n1 n2 n3 n4 c0 c1 c2 c3 c4 sq true W (by simp [hn]))
 have HD0:=qz (fun W (h:Bx14 w S A0 A1 A2 A3 A4 n0 n1 n2 n3 n4 c0 c1 c2 c3 c4 sq W) => (show Calls Tryz.prog 6 #[(.agg #[.slice A0 n0 c0,.slice A1 n1 c1,.slice A2 n2 c2,.slice A3 n3 c3,.slice A4 n4 c4,.int .i64 sq])] W fun e w' => e = .returned (.bool true)/\Below W.heap.size W w' from by have h1:=rlight17 (.agg #[.slice A0 n0 c0,.slice A1 n1 c1,.slice A2 n2 c2,.slice A3 n3 c3,.slice A4 n4 c4,.int .i64 sq]) S W h.st; rwa [hg] at h1))
 have HD1:=qz (fun W (h:Bx14 w S A0 A1 A2 A3 A4 n0 n1 n2 n3 n4 c0 c1 c2 c3 c4 sq W) => rfine14 (.agg #[.slice A0 n0 c0,.slice A1 n1 c1,.slice A2 n2 c2,.slice A3 n3 c3,.slice A4 n4 c4,.int .i64 sq]) S false W h.st (by simp [hf]));clear hs hx0 hxn hn hg hf;go_enter Tryz.func4,Tryz.ntmps4;go_wp2_with fail;refine (HC.out _).mono ?_;rintro e u1 ⟨rfl,hb1⟩
 have HX1:=qz (HX0.out.step hb1);clear hb1 HC HX0 p0 p1 p2 p3 p4 p5;obtain ⟨q10,q11,q12,q13,q14,q15⟩:=ce6 HX1.out.x;go_wp2_with fail;refine (HD0.out _ HX1.out).mono ?_;rintro e u2 ⟨rfl,hb2⟩;have HX2:=qz (HX1.out.step hb2);clear hb2 HD0 HX1 q10 q11 q12 q13 q14 q15;obtain ⟨q20,q21,q22,q23,q24,q25⟩:=ce6 HX2.out.x;go_wp2_with fail
 refine (HD1.out _ HX2.out).mono ?_;rintro e u3 ⟨rfl,hb3⟩;have HX3:=qz (HX2.out.step hb3);clear hb3 HD1 HX2 q20 q21 q22 q23 q24 q25;go_wp2_with fail;refine (alive19_any _).mono ?_;rintro e u4 ⟨rfl,hb4⟩;have HX4:=qz (HX3.out.step hb4);clear hb4;go_wp2_with fail;go_ret;exact ⟨rfl,HX4.out.b⟩
theorem qr18_le {x y:Rat} (hx:0<=x) (h:x<=y):(qr18 x).1 * (qr18 y).2<=(qr18 y).1 * (qr18 x).2:=by
 have h1:=(Rat.le_iff x y).1 h;have h2:0<=x.num:=Rat.num_nonneg.2 hx;have h3:0<=y.num:=Rat.num_nonneg.2 (by grind);show x.num.toNat * y.den<=y.num.toNat * x.den;have e1:((x.num.toNat:Nat):Int) = x.num:=Int.toNat_of_nonneg h2;have e2:((y.num.toNat:Nat):Int) = y.num:=Int.toNat_of_nonneg h3;rw [<- e1,<- e2] at h1
 exact_mod_cast h1
theorem cmpI_le {a b:Nat} (h:a<=b):decide (cmpI a b > 0) = false:=by
 unfold cmpI;split
 · decide
 ·
  split
  · omega
  · decide
structure Ky19 (w:World) (S:Sv14) (A0 A1 A2 A3 A4:Option Addr) (n0 n1 n2 n3 n4 c0 c1 c2 c3 c4:Nat) (sq:Int) (g:Nat) (cr:Nat->Rat) (W:World):Prop where
 b:By16 w S A0 A1 A2 A3 A4 n0 n1 n2 n3 n4 c0 c1 c2 c3 c4 sq W
 r:Qr18 W g n2 (fun k => qr18 (cr k))
theorem Ky19.step {w:World} {S:Sv14} {A0 A1 A2 A3 A4:Option Addr} {n0 n1 n2 n3 n4 c0 c1 c2 c3 c4:Nat} {sq:Int} {g:Nat} {cr:Nat->Rat} {W W':World} (h:Ky19 w S A0 A1 A2 A3 A4 n0 n1 n2 n3 n4 c0 c1 c2 c3 c4 sq g cr W) (hb:Below W.heap.size W W'):Ky19 w S A0 A1 A2 A3 A4 n0 n1 n2 n3 n4 c0 c1 c2 c3 c4 sq g cr W':=⟨h.b.step hb,h.r.step hb⟩
theorem cykeeps19_yes (A0 A1 A2 A3 A4:Option Addr) (n0 n1 n2 n3 n4 c0 c1 c2 c3 c4:Nat) (sq:Int) (S:Sv14) (w:World) (hs:SA14 w S A0 A1 A2 A3 A4 n0 n1 n2 n3 n4 c0 c1 c2 c3 c4 sq) (hn:Small14 n0 n1 n2 n3 n4) (hg:light17 S = true) (hf:Fine14 S) :
  Calls Tryz.prog 4 #[(.agg #[.slice A0 n0 c0,.slice A1 n1 c1,.slice A2 n2 c2,.slice A3 n3 c3,.slice A4 n4 c4,.int .i64 sq])] w fun e w' => e = .returned (.bool true)/\Below w.heap.size w w':=by
 obtain ⟨wC,wT,hw⟩:=wo18_ex hf;have hx0:=Bx14.new hs;have hxn:=hx0.step (Below.refl _ _).drew;obtain ⟨W1,hW1⟩:=exq (w.alloc (.cells #[.slice A0 n0 c0,.slice A1 n1 c1,.slice A2 n2 c2,.slice A3 n3 c3,.slice A4 n4 c4,.int .i64 sq] 28));rw [hW1] at hx0 hxn;have HX0:=qz hx0;obtain ⟨p0,p1,p2,p3,p4,p5⟩:=ce6 hx0.x
 have HC:=qz (fun W => small14 A0 A1 A2 A3 A4 n0 n1 n2 n3 n4 c0 c1 c2 c3 c4 sq true W (by simp [hn]))
 have HG:=qz (fun W (h:Bx14 w S A0 A1 A2 A3 A4 n0 n1 n2 n3 n4 c0 c1 c2 c3 c4 sq W) => (show Calls Tryz.prog 6 #[(.agg #[.slice A0 n0 c0,.slice A1 n1 c1,.slice A2 n2 c2,.slice A3 n3 c3,.slice A4 n4 c4,.int .i64 sq])] W fun e w' => e = .returned (.bool true)/\Below W.heap.size W w' from by have h1:=rlight17 (.agg #[.slice A0 n0 c0,.slice A1 n1 c1,.slice A2 n2 c2,.slice A3 n3 c3,.slice A4 n4 c4,.int .i64 sq]) S W h.st; rwa [hg] at h1))
 have HD:=qz (fun W (h:Bx14 w S A0 A1 A2 A3 A4 n0 n1 n2 n3 n4 c0 c1 c2 c3 c4 sq W) => rfine14 (.agg #[.slice A0 n0 c0,.slice A1 n1 c1,.slice A2 n2 c2,.slice A3 n3 c3,.slice A4 n4 c4,.int .i64 sq]) S true W h.st (by simp [hf]))
 have HTO:=qz (fun W (h:Bx14 w S A0 A1 A2 A3 A4 n0 n1 n2 n3 n4 c0 c1 c2 c3 c4 sq W) => total19 (.agg #[.slice A0 n0 c0,.slice A1 n1 c1,.slice A2 n2 c2,.slice A3 n3 c3,.slice A4 n4 c4,.int .i64 sq]) S wC wT W h.st hf hw)
 have HAL:=qz (fun W (h:Bx14 w S A0 A1 A2 A3 A4 n0 n1 n2 n3 n4 c0 c1 c2 c3 c4 sq W) => all19 (.agg #[.slice A0 n0 c0,.slice A1 n1 c1,.slice A2 n2 c2,.slice A3 n3 c3,.slice A4 n4 c4,.int .i64 sq]) S wC wT W h.st hf hw)
 have HNX:=qz (fun (i:Int) W (h:Bx14 w S A0 A1 A2 A3 A4 n0 n1 n2 n3 n4 c0 c1 c2 c3 c4 sq W) => rnext16 (.agg #[.slice A0 n0 c0,.slice A1 n1 c1,.slice A2 n2 c2,.slice A3 n3 c3,.slice A4 n4 c4,.int .i64 sq]) S i W h.st hf)
 have HR0:=qz (fun W (h:Bx14 w S A0 A1 A2 A3 A4 n0 n1 n2 n3 n4 c0 c1 c2 c3 c4 sq W) => ramount17 (.agg #[.slice A0 n0 c0,.slice A1 n1 c1,.slice A2 n2 c2,.slice A3 n3 c3,.slice A4 n4 c4,.int .i64 sq]) S hf 0 W h.st);have hA:=amn17_int hf.2.2.2.2.1 0;have hbd:=amt17_bound hf.2.2.2.2.1 0 S.T.length;have h96:S.T.length<=96:=hf.2.2.1.2.1.1
 obtain ⟨z,hz⟩:=exq (amn17 S 0);have hz30:z < 1073741824:=by omega
 rw [<- hA,hz] at HR0 HTO;have hzq:qr18 (((z:Nat):Int):Rat) = (z,1):=qr18_nat z;rw [hzq] at HTO;have hwr:IntKind.u64.wrap (z:Int) = (z:Int):=by rw [IntKind.wrap_u64]; omega
 have HIN:=qz (fun W => int4_b z W (by omega));have HZ36:Hid (z < 65536 ^ 36/\1 < 65536 ^ 36):=qz ⟨Nat.lt_trans (by omega:z < 65536 ^ 2) (Nat.pow_lt_pow_right (by omega) (by omega)),by decide⟩;obtain ⟨hcn,hcq,_⟩:=hw.car_sq hf
 have HSM:Hid (∀ k,0<=car19 S (th18 S wT) k/\Sm18 (qr18 (car19 S (th18 S wT) k))):=qz (fun k => ⟨(hcq k).1,Nat.lt_of_lt_of_le (hcq k).2.1 (by decide),Nat.lt_of_lt_of_le (hcq k).2.2 (by decide)⟩)
 have HNE:Hid (∀ (i j:Nat),i < S.H.length->nxt16 S (i:Int) = (j:Int)->j < S.H.length/\car19 S (th18 S wT) i<=car19 S (th18 S wT) j):=qz (fun i j hi hj => ⟨by
  rcases nxt16_used hf (i:Int) with h2 | h2
  · omega
  ·
   have h3:=ush16_lt h2.1;rw [hj] at h3
   omega,car19_next hf hcn hi hj⟩)
 obtain ⟨cr,hcr⟩:=exq (car19 S (th18 S wT));rw [hcr] at HAL HSM HNE;have HL2:=qz hs.l2;have HSS:=qz hs;have hnb2:=hs.m2;clear hs hx0 hxn hn hf hg hw hA hbd h96 hz hzq hcn hcq hcr hz30;go_enter Tryz.func4,Tryz.ntmps4;go_wp2_with fail;refine (HC.out _).mono ?_;rintro e u1 ⟨rfl,hb1⟩;have HX1:=qz (HX0.out.step hb1);obtain ⟨q0,q1,q2,q3,q4,q5⟩:=ce6 HX1.out.x
 clear hb1 HC hW1 HX0 p0 p1 p2 p3 p4 p5;go_wp2_with fail;refine (HG.out _ HX1.out).mono ?_;rintro e u2 ⟨rfl,hb2⟩;have HX2:=qz (HX1.out.step hb2);obtain ⟨r0,r1,r2,r3,r4,r5⟩:=ce6 HX2.out.x;clear hb2 HG HX1 q0 q1 q2 q3 q4 q5;go_wp2_with fail;refine (HD.out _ HX2.out).mono ?_;rintro e u3 ⟨rfl,hb3⟩;have HX3:=qz (HX2.out.step hb3)
 clear hb3 HD HX2 r0 r1 r2 r3 r4 r5;have HXN:Hid (Bx14 w S A0 A1 A2 A3 A4 n0 n1 n2 n3 n4 c0 c1 c2 c3 c4 sq u3.drew):=qz (HX3.out.step (Below.refl _ _).drew);clear HX3;obtain ⟨wn,hwn⟩:=exq u3.drew;rw [hwn] at HXN;go_wp2_with fail
 refine wp_region_held_drew (S:=Bx14 w S A0 A1 A2 A3 A4 n0 n1 n2 n3 n4 c0 c1 c2 c3 c4 sq) (by kernel_rfl) (by rw [hwn]; exact HXN.out) (fun hHeld => ?_);rw [hwn] at hHeld ⊢;clear hwn;have HBS:=HXN;refine tk 0 (v:=?_) (fun W hS => ?_) ?_;rotate_left
 ·
  try dsimp only at hS
  obtain ⟨z0,z1,z2,z3,z4,z5⟩:=ce6 hS.x;go_simp
  try with_reducible rfl
 try simp only [Act.put,pt1,pt2,pt3]
 refine tk 2 (v:=?_) (fun W hS => ?_) ?_;rotate_left
 ·
  try dsimp only at hS
  obtain ⟨z0,z1,z2,z3,z4,z5⟩:=ce6 hS.x;go_simp
  try with_reducible rfl
 try simp only [Act.put,pt1,pt2,pt3]
 refine rdy 1 (fun K hK => ?_);have HBS0:=HBS;go_simp;refine (HTO.out _ HBS0.out).mono ?_;rintro e wn ⟨D1,j1,t1,D2,j2,t2,rfl,hx,hy,hb⟩;have HBS:=qz (HBS0.out.step hb);have HX:=qz (hx.more (Nat.zero_le _));have HY:=qz (hy.more (Nat.zero_le _));clear hb HBS0 hx hy;refine koq hK HBS.out (fun hHeld=>?_);clear hK K;refine rdy 3 (fun K hK => ?_);have HBS0:=HBS
 go_simp;refine (HR0.out _ HBS0.out).mono ?_;rintro e wn ⟨rfl,hb⟩;have HBS:=qz (HBS0.out.step hb);have HX:=qz (HX.out.below hb);have HY:=qz (HY.out.below hb);clear hb HBS0;refine koq hK HBS.out (fun hHeld=>?_);clear hK K;refine tkq 4 ?_;refine rdy 5 (fun K hK => ?_);have HBS0:=HBS;go_simp;refine (HIN.out _).mono ?_
 rintro e wn ⟨E1,k1,s1,E2,k2,s2,rfl,hx,hy,hb⟩;have HBS:=qz (HBS0.out.step hb);have HX:=qz (HX.out.below hb);have HY:=qz (HY.out.below hb);have HU:=qz hx;have HW:=qz hy;clear hb HBS0 hx hy;refine koq hK HBS.out (fun hHeld=>?_);clear hK K;refine rdy 6 (fun K hK => ?_);have HBS0:=HBS;go_simp
 refine (same18 wn HX.out HY.out HU.out HW.out HZ36.out.1 HZ36.out.2).mono ?_;rintro e wn ⟨rfl,hb⟩;have HBS:=qz (HBS0.out.step hb);clear hb HBS0 HX HY HU HW;refine koq hK HBS.out (fun hHeld=>?_);clear hK K;refine tkq 7 ?_;refine wpAnyH_done (by kernel_rfl) ?_ _;clear hHeld;have HX4:=HBS;clear HXN HTO HR0 HIN HZ36 HBS;obtain ⟨u4,hu4⟩:∃ W,W = wn:=⟨_,rfl⟩
 subst hu4;obtain ⟨x0,x1,x2,x3,x4,x5⟩:=ce6 HX4.out.x;go_wp2_with fail;refine (HAL.out _ HX4.out).mono ?_;rintro e u5 ⟨g,rfl,_,hr,hb⟩;rw [HL2.out] at hr ⊢;have HK0:Hid (Ky19 w S A0 A1 A2 A3 A4 n0 n1 n2 n3 n4 c0 c1 c2 c3 c4 sq g cr u5):=qz ⟨⟨HX4.out.step hb,HSS.out⟩,hr⟩;clear hr hb HX4 HAL HSS x0 x1 x2 x3 x4 x5;go_wp2_with fail
 go_loopw [4] (fun i wr => ∃ k:Nat,i = .int .i64 (k:Int)/\k<=n2/\Hid (Ky19 w S A0 A1 A2 A3 A4 n0 n1 n2 n3 n4 c0 c1 c2 c3 c4 sq g cr wr)) (fun i _ => n2 - (intOf i).toNat)
 case atStart => exact ⟨0,rfl,by omega,HK0⟩
 case round =>
  clear HK0;obtain ⟨k,rfl,hk,HK⟩:=hrel;obtain ⟨y0,y1,y2,y3,y4,y5⟩:=ce6 HK.out.b.b.x;by_cases hkn:k < n2
  ·
   have i0:(0:Int)<=(k:Int):=by omega
   have i1:(k:Int) < (n2:Int):=by omega
   have HRK:=qz (HNX.out (k:Int))
   have HNK:Hid (∀ j:Nat,nxt16 S (k:Int) = (j:Int)->j < n2/\cr k<=cr j):=qz (fun j hj => by
    have h:=HNE.out k j (by have:=HL2.out; omega) hj;have:=HL2.out
    exact ⟨by omega,h.2⟩)
   obtain ⟨nx,hnx⟩:=exq (nxt16 S (k:Int));rw [hnx] at HRK HNK;clear hnx;go_wp2_with fail;refine (HRK.out _ HK.out.b.b).mono ?_;rintro e w4 ⟨rfl,hb4⟩;have HK4:=qz (HK.out.step hb4);clear hb4 HRK HK y0 y1 y2 y3 y4 y5;go_upto_region 10 with (fail)
   have HY:Hid (Ly18 w S A0 A1 A2 A3 A4 n0 n1 n2 n3 n4 c0 c1 c2 c3 c4 sq w4 w4):=qz ⟨HK4.out.b,Below.refl _ _⟩;by_cases h0:0<=nx
   ·
    obtain ⟨j,rfl⟩:∃ j:Nat,nx = (j:Int):=⟨nx.toNat,by omega⟩
    obtain ⟨hjn,hle⟩:=HNK.out j rfl;have g0:decide ((j:Int)≥0) = true:=by simp
    have j1:(j:Int) < (n2:Int):=by omega
    obtain ⟨C1,k1,r1,C2,k2,r2,e1,e2,v1,v2,_,_⟩:=HK4.out.r.cells hkn;obtain ⟨C3,k3,r3,C4,k4,r4,e3,e4,v3,v4,_,_⟩:=HK4.out.r.cells hjn;have HC1:=qz e1;have HC2:=qz e2;have HC3:=qz e3;have HC4:=qz e4;have hcm:=cmpI_le (qr18_le (HSM.out k).1 hle)
    have HCM:Hid (∀ W,Below w4.heap.size w4 W->Calls Tryz.prog 21 #[.agg #[.slice C1 k1 r1,.slice C2 k2 r2],.agg #[.slice C3 k3 r3,.slice C4 k4 r4]] W fun e w' => e = .returned (.int .i64 (cmpI ((qr18 (cr k)).1 * (qr18 (cr j)).2) ((qr18 (cr j)).1 * (qr18 (cr k)).2)))/\Below W.heap.size W w'):=qz (fun W h => ratioCmp_r (M:=18) W ((v1.below h).nr (HSM.out k).2.1) ((v2.below h).nr (HSM.out k).2.2) ((v3.below h).nr (HSM.out j).2.1) ((v4.below h).nr (HSM.out j).2.2) (by omega))
    obtain ⟨cm,hcmx⟩:=exq (cmpI ((qr18 (cr k)).1 * (qr18 (cr j)).2) ((qr18 (cr j)).1 * (qr18 (cr k)).2));rw [hcmx] at HCM hcm;clear e1 e2 e3 e4 v1 v2 v3 v4 hle hcmx;have HXN:Hid (Ly18 w S A0 A1 A2 A3 A4 n0 n1 n2 n3 n4 c0 c1 c2 c3 c4 sq w4 w4.drew):=qz (HY.out.step (Below.refl _ _).drew);clear HY;obtain ⟨wn,hwn⟩:=exq w4.drew;rw [hwn] at HXN
    go_wp2_with fail;refine wp_region_held_drew (S:=Ly18 w S A0 A1 A2 A3 A4 n0 n1 n2 n3 n4 c0 c1 c2 c3 c4 sq w4) (by kernel_rfl) (by rw [hwn]; exact HXN.out) (fun hHeld => ?_);rw [hwn] at hHeld ⊢;clear hwn;have HBS:=HXN;refine tkq 0 ?_;refine tkq 1 ?_;refine tkq 2 ?_;refine tkq 3 ?_;refine tkq 4 ?_;refine tkq 5 ?_;refine tk 6 (v:=?_) (fun W hS => ?_) ?_
    rotate_left
    ·
     try dsimp only at hS
     have z0:=(hS.z.cell (World.block_lt_of_cell? _ _ HC1.out)).trans HC1.out;have z1:=(hS.z.cell (World.block_lt_of_cell? _ _ HC2.out)).trans HC2.out;go_simp
     try with_reducible rfl
    try simp only [Act.put,pt1,pt2,pt3]
    refine tkq 7 ?_;refine tkq 8 ?_;refine tkq 9 ?_;refine tk 10 (v:=?_) (fun W hS => ?_) ?_;rotate_left
    ·
     try dsimp only at hS
     have z0:=(hS.z.cell (World.block_lt_of_cell? _ _ HC3.out)).trans HC3.out;have z1:=(hS.z.cell (World.block_lt_of_cell? _ _ HC4.out)).trans HC4.out;go_simp
     try with_reducible rfl
    try simp only [Act.put,pt1,pt2,pt3]
    refine rdy 11 (fun K hK => ?_);have HBS0:=HBS;go_simp;refine (HCM.out _ HBS0.out.z).mono ?_;rintro e wn ⟨rfl,hb⟩;have HBS:=qz (HBS0.out.step hb);clear hb HBS0;refine koq hK HBS.out (fun hHeld=>?_);clear hK K;refine tkq 12 ?_;refine tkq 13 ?_;refine wpAnyH_done (by kernel_rfl) ?_ _;clear hHeld;have HN:=qz (HK4.out.step HBS.out.z);clear HXN HBS HK4 HNK
    go_wp2_with fail;go_roundw
    case rel => exact ⟨k + 1,by go_num,by omega,HN⟩
    case measure => simp [intOf]; omega
   ·
    have g0:decide (nx≥0) = false:=by simp; omega
    have HXN:Hid (Ly18 w S A0 A1 A2 A3 A4 n0 n1 n2 n3 n4 c0 c1 c2 c3 c4 sq w4 w4.drew):=qz (HY.out.step (Below.refl _ _).drew);clear HY;obtain ⟨wn,hwn⟩:=exq w4.drew;rw [hwn] at HXN;go_wp2_with fail;refine wp_region_held_drew (S:=Ly18 w S A0 A1 A2 A3 A4 n0 n1 n2 n3 n4 c0 c1 c2 c3 c4 sq w4) (by kernel_rfl) (by rw [hwn]; exact HXN.out) (fun hHeld => ?_)
    rw [hwn] at hHeld ⊢;clear hwn;have HBS:=HXN;refine tkq 0 ?_;refine tkq 1 ?_;refine tkq 2 ?_;refine sk 3 ?_
    try simp only [Act.put,pt1,pt2,pt3]
    refine sk 4 ?_
    try simp only [Act.put,pt1,pt2,pt3]
    refine sk 5 ?_
    try simp only [Act.put,pt1,pt2,pt3]
    refine sk 6 ?_
    try simp only [Act.put,pt1,pt2,pt3]
    refine sk 7 ?_
    try simp only [Act.put,pt1,pt2,pt3]
    refine sk 8 ?_
    try simp only [Act.put,pt1,pt2,pt3]
    refine sk 9 ?_
    try simp only [Act.put,pt1,pt2,pt3]
    refine sk 10 ?_
    try simp only [Act.put,pt1,pt2,pt3]
    refine sk 11 ?_
    try simp only [Act.put,pt1,pt2,pt3]
    refine sk 12 ?_
    try simp only [Act.put,pt1,pt2,pt3]
    refine tkq 13 ?_;refine wpAnyH_done (by kernel_rfl) ?_ _;clear hHeld;have HN:=qz (HK4.out.step HBS.out.z);clear HXN HBS HK4 HNK;go_wp2_with fail;go_roundw
    case rel => exact ⟨k + 1,by go_num,by omega,HN⟩
    case measure => simp [intOf]; omega
  ·
   obtain rfl:n2 = k:=by omega
   have i1:¬ (n2:Int) < (n2:Int):=by omega
   have hsf:((n2:Int) == (n2:Int)) = true:=by simp
   go_wp2_with fail;refine (alive19_any _).mono ?_;rintro e x3 ⟨rfl,hb⟩;have HB:=qz (HK.out.b.b.step hb);clear hb HK;go_wp2_with fail;go_ret;exact ⟨rfl,HB.out.b⟩
theorem carryKeeps_all (W:World) (A00 A01 A02 A03 A04:Option Addr) (n00 n01 n02 n03 n04 c00 c01 c02 c03 c04:Nat) (q0:Int) (S0:Sv14) (h0:Small14 n00 n01 n02 n03 n04->SA14 W S0 A00 A01 A02 A03 A04 n00 n01 n02 n03 n04 c00 c01 c02 c03 c04 q0) :
  Calls Tryz.prog 4 #[.agg #[.slice A00 n00 c00,.slice A01 n01 c01,.slice A02 n02 c02,.slice A03 n03 c03,.slice A04 n04 c04,.int .i64 q0]] W fun e w' => e = .returned (.bool true)/\Below W.heap.size W w':=by
 by_cases hn:Small14 n00 n01 n02 n03 n04
 case neg => exact cykeeps19_no1 A00 A01 A02 A03 A04 n00 n01 n02 n03 n04 c00 c01 c02 c03 c04 q0 S0 W hn
 cases hg:light17 S0 with
 | false => exact cykeeps19_no2 A00 A01 A02 A03 A04 n00 n01 n02 n03 n04 c00 c01 c02 c03 c04 q0 S0 W (h0 hn) hn hg
 | true =>
  by_cases hf:Fine14 S0
  · exact cykeeps19_yes A00 A01 A02 A03 A04 n00 n01 n02 n03 n04 c00 c01 c02 c03 c04 q0 S0 W (h0 hn) hn hg hf
  · exact cykeeps19_no3 A00 A01 A02 A03 A04 n00 n01 n02 n03 n04 c00 c01 c02 c03 c04 q0 S0 W (h0 hn) hn hg hf
end
section
open Go.ChangeShapes Go.WideShapes Go.ChangeAt Go.RowKit
set_option maxRecDepth 100000
theorem open_rows14 {α:Type} [Inhabited α] {cl:α->List Value} {k:Nat} (hk:∀ x,(cl x).length = k) (hk0:0 < k) {H:Type} {enc:TypeId × Value->H} {W:World} {t e:TypeId} (ht:Tryz.prog.underlying t = some (.slice e)) (he:Tryz.prog.cellsOf e = k)
  (hx:∀ f cs y,cs.length = k->DataW.trod enc Tryz.prog W 0 (fun _ => true) true f e cs = some y->∃ x,cs = cl x) {v:Value} {f:Nat} {y:DataW H × List MemPlace} (h:DataW.trod enc Tryz.prog W 0 (fun _ => true) true f t [v] = some y) :
  ∃ (A:Option Addr) (n c:Nat) (xs:List α),v = .slice A n c/\xs.length = n/\Lq cl W W.heap.size A xs/\n<=c:=by
 rcases Go.Deep.open_slice ht h with ⟨hcs,hy⟩ | ⟨a,len,cap,m,n,D,Pl,hcs,hb,hl,hm,hmm,hy,hel⟩
 ·
  simp at hcs;subst hcs;exact ⟨none,0,0,[],rfl,rfl,Lq.nil _ _ _ _,Nat.le_refl _⟩
 ·
  simp at hcs;subst hcs;simp only [if_true] at hmm
  have each:∀ i,i < len->∃ x:α,∀ j v,(cl x)[j]? = some v->W.cell? (a.add (i * k + j)) = some v:=by
   intro i hi;obtain ⟨cs',h1,h2⟩:=hel i (by omega);rw [he] at h1;obtain ⟨_,hlen,hcell⟩:=World.cells?_some h1;obtain ⟨x,rfl⟩:=hx _ _ _ hlen h2;refine ⟨x,fun j v hj => ?_⟩
   have hjk:j < k:=by
    have:=(List.getElem?_eq_some_iff.1 hj).1
    rwa [hk] at this
   have:=hcell j hjk;rw [Go.Deep.add_add] at this;rw [this];exact hj
  obtain ⟨q,hq⟩:=Go.Deep.choose_lt each;have hll:((List.range len).map q).length = len:=by simp
  refine ⟨some a,len,cap,(List.range len).map q,rfl,hll,fun hne => ?_,hl⟩
  have hpos:0 < len:=by
   rcases Nat.eq_zero_or_pos len with h0 | h0
   ·
    subst h0;exact absurd rfl hne
   · exact h0
  have hfirst:∃ v,W.cell? a = some v:=by
   have hc0:0 < (cl (q 0)).length:=by rw [hk]; exact hk0
   refine ⟨(cl (q 0))[0],?_⟩;have:=hq 0 hpos 0 _ (List.getElem?_eq_getElem hc0);simpa [Addr.add] using this
  obtain ⟨v0,hv0⟩:=hfirst;obtain ⟨b,off,spot⟩:=a;have hspot:spot = none:=by simpa using World.cell?_spot hv0
  subst hspot;refine ⟨b,off,rfl,World.block_lt_of_cell? W _ hv0,fun j v hj => ?_⟩
  have hjl:j < len * k:=by
   have:=(List.getElem?_eq_some_iff.1 hj).1;rw [fl14_len hk,hll] at this;exact this
  have hd:j / k < len:=Nat.div_lt_of_lt_mul (by rw [Nat.mul_comm]; exact hjl);have hm':j % k < k:=Nat.mod_lt _ hk0;have hj2:j / k * k + j % k = j:=by rw [Nat.mul_comm]; exact Nat.div_add_mod j k
  rw [<- hj2,fl14_get hk (by rw [hll]; exact hd) hm'] at hj;have hg:gt14 ((List.range len).map q) (j / k) = q (j / k):=by simp [gt14,hd]
  rw [hg] at hj;have:=hq (j / k) hd (j % k) v hj;rw [hj2] at this;simpa only [Go.WideShapes.add_plain] using this
theorem trod_fld14 {P:Program} {H:Type} {enc:TypeId × Value->H} {w:World} {base:Nat} {spare:Nat->Bool} {held:Bool} {t:TypeId} {fs:Array Field} {fuel:Nat} {cs:List Value} {x:DataW H × List MemPlace} (ht:P.underlying t = some (.struct fs)) (h:DataW.trod enc P w base spare held fuel t cs = some x) :
  ∃ n,∀ (i:Nat) (f:Field),fs[i]? = some f->∃ y,DataW.trod enc P w base spare held n f.type ((cs.drop f.offset).take (P.cellsOf f.type)) = some y:=by
 obtain ⟨xs,n,_,rfl,hl,hlen,hf⟩:=DataW.trod_struct ht h;refine ⟨n,fun i f hi => ?_⟩;have hlt:i < fs.size:=(Array.getElem?_eq_some_iff.1 hi).1;have:=hf i f hi;rw [List.getElem?_eq_getElem (by omega)] at this;exact ⟨_,this⟩
theorem cells14_bool:Tryz.prog.cellsOf 4 = 1:=by kernel_rfl
theorem cells14_int:Tryz.prog.cellsOf 3 = 1:=by kernel_rfl
theorem elem14_T {H:Type} {enc:TypeId × Value->H} {W:World} (f:Nat) (cs:List Value) (y:DataW H × List MemPlace) (hl:cs.length = 6) (h:DataW.trod enc Tryz.prog W 0 (fun _ => true) true f 55 cs = some y):∃ x,cs = clT x:=by
 obtain ⟨n,hf⟩:=trod_fld14 Tryz.underlying55 h
 match cs,hl with
 | [z0,z1,z2,z3,z4,z5],_ =>
  obtain ⟨y0,g0⟩:=hf 0 _ rfl;have g0:DataW.trod enc Tryz.prog W 0 (fun _ => true) true n 4 (([z0,z1,z2,z3,z4,z5].drop 0).take (Tryz.prog.cellsOf 4)) = some y0:=g0;rw [cells14_bool] at g0;obtain ⟨x0,e0,_⟩:=DataW.trod_bool Tryz.underlying4 g0;obtain ⟨y1,g1⟩:=hf 1 _ rfl
  have g1:DataW.trod enc Tryz.prog W 0 (fun _ => true) true n 3 (([z0,z1,z2,z3,z4,z5].drop 1).take (Tryz.prog.cellsOf 3)) = some y1:=g1;rw [cells14_int] at g1;obtain ⟨x1,e1,_,_⟩:=DataW.trod_int Tryz.underlying3 g1;obtain ⟨y2,g2⟩:=hf 2 _ rfl
  have g2:DataW.trod enc Tryz.prog W 0 (fun _ => true) true n 3 (([z0,z1,z2,z3,z4,z5].drop 2).take (Tryz.prog.cellsOf 3)) = some y2:=g2;rw [cells14_int] at g2;obtain ⟨x2,e2,_,_⟩:=DataW.trod_int Tryz.underlying3 g2;obtain ⟨y3,g3⟩:=hf 3 _ rfl
  have g3:DataW.trod enc Tryz.prog W 0 (fun _ => true) true n 3 (([z0,z1,z2,z3,z4,z5].drop 3).take (Tryz.prog.cellsOf 3)) = some y3:=g3;rw [cells14_int] at g3;obtain ⟨x3,e3,_,_⟩:=DataW.trod_int Tryz.underlying3 g3;obtain ⟨y4,g4⟩:=hf 4 _ rfl
  have g4:DataW.trod enc Tryz.prog W 0 (fun _ => true) true n 3 (([z0,z1,z2,z3,z4,z5].drop 4).take (Tryz.prog.cellsOf 3)) = some y4:=g4;rw [cells14_int] at g4;obtain ⟨x4,e4,_,_⟩:=DataW.trod_int Tryz.underlying3 g4;obtain ⟨y5,g5⟩:=hf 5 _ rfl
  have g5:DataW.trod enc Tryz.prog W 0 (fun _ => true) true n 4 (([z0,z1,z2,z3,z4,z5].drop 5).take (Tryz.prog.cellsOf 4)) = some y5:=g5;rw [cells14_bool] at g5;obtain ⟨x5,e5,_⟩:=DataW.trod_bool Tryz.underlying4 g5;simp at e0 e1 e2 e3 e4 e5;subst e0 e1 e2 e3 e4 e5;exact ⟨⟨x0,x1,x2,x3,x4,x5⟩,rfl⟩
theorem elem14_H {H:Type} {enc:TypeId × Value->H} {W:World} (f:Nat) (cs:List Value) (y:DataW H × List MemPlace) (hl:cs.length = 5) (h:DataW.trod enc Tryz.prog W 0 (fun _ => true) true f 60 cs = some y):∃ x,cs = clH x:=by
 obtain ⟨n,hf⟩:=trod_fld14 Tryz.underlying60 h
 match cs,hl with
 | [z0,z1,z2,z3,z4],_ =>
  obtain ⟨y0,g0⟩:=hf 0 _ rfl;have g0:DataW.trod enc Tryz.prog W 0 (fun _ => true) true n 3 (([z0,z1,z2,z3,z4].drop 0).take (Tryz.prog.cellsOf 3)) = some y0:=g0;rw [cells14_int] at g0;obtain ⟨x0,e0,_,_⟩:=DataW.trod_int Tryz.underlying3 g0;obtain ⟨y1,g1⟩:=hf 1 _ rfl
  have g1:DataW.trod enc Tryz.prog W 0 (fun _ => true) true n 3 (([z0,z1,z2,z3,z4].drop 1).take (Tryz.prog.cellsOf 3)) = some y1:=g1;rw [cells14_int] at g1;obtain ⟨x1,e1,_,_⟩:=DataW.trod_int Tryz.underlying3 g1;obtain ⟨y2,g2⟩:=hf 2 _ rfl
  have g2:DataW.trod enc Tryz.prog W 0 (fun _ => true) true n 3 (([z0,z1,z2,z3,z4].drop 2).take (Tryz.prog.cellsOf 3)) = some y2:=g2;rw [cells14_int] at g2;obtain ⟨x2,e2,_,_⟩:=DataW.trod_int Tryz.underlying3 g2;obtain ⟨y3,g3⟩:=hf 3 _ rfl
  have g3:DataW.trod enc Tryz.prog W 0 (fun _ => true) true n 3 (([z0,z1,z2,z3,z4].drop 3).take (Tryz.prog.cellsOf 3)) = some y3:=g3;rw [cells14_int] at g3;obtain ⟨x3,e3,_,_⟩:=DataW.trod_int Tryz.underlying3 g3;obtain ⟨y4,g4⟩:=hf 4 _ rfl
  have g4:DataW.trod enc Tryz.prog W 0 (fun _ => true) true n 3 (([z0,z1,z2,z3,z4].drop 4).take (Tryz.prog.cellsOf 3)) = some y4:=g4;rw [cells14_int] at g4;obtain ⟨x4,e4,_,_⟩:=DataW.trod_int Tryz.underlying3 g4;simp at e0 e1 e2 e3 e4;subst e0 e1 e2 e3 e4;exact ⟨⟨x0,x1,x2,x3,x4⟩,rfl⟩
theorem elem14_L {H:Type} {enc:TypeId × Value->H} {W:World} (f:Nat) (cs:List Value) (y:DataW H × List MemPlace) (hl:cs.length = 2) (h:DataW.trod enc Tryz.prog W 0 (fun _ => true) true f 79 cs = some y):∃ x,cs = clL x:=by
 obtain ⟨n,hf⟩:=trod_fld14 Tryz.underlying79 h
 match cs,hl with
 | [z0,z1],_ =>
  obtain ⟨y0,g0⟩:=hf 0 _ rfl;have g0:DataW.trod enc Tryz.prog W 0 (fun _ => true) true n 4 (([z0,z1].drop 0).take (Tryz.prog.cellsOf 4)) = some y0:=g0;rw [cells14_bool] at g0;obtain ⟨x0,e0,_⟩:=DataW.trod_bool Tryz.underlying4 g0;obtain ⟨y1,g1⟩:=hf 1 _ rfl
  have g1:DataW.trod enc Tryz.prog W 0 (fun _ => true) true n 3 (([z0,z1].drop 1).take (Tryz.prog.cellsOf 3)) = some y1:=g1;rw [cells14_int] at g1;obtain ⟨x1,e1,_,_⟩:=DataW.trod_int Tryz.underlying3 g1;simp at e0 e1;subst e0 e1;exact ⟨⟨x0,x1⟩,rfl⟩
theorem elem14_C {H:Type} {enc:TypeId × Value->H} {W:World} (f:Nat) (cs:List Value) (y:DataW H × List MemPlace) (hl:cs.length = 1) (h:DataW.trod enc Tryz.prog W 0 (fun _ => true) true f 4 cs = some y):∃ x,cs = clC x:=by
 obtain ⟨x,rfl,_⟩:=DataW.trod_bool Tryz.underlying4 h;exact ⟨x,rfl⟩
theorem elem14_I {H:Type} {enc:TypeId × Value->H} {W:World} (f:Nat) (cs:List Value) (y:DataW H × List MemPlace) (hl:cs.length = 1) (h:DataW.trod enc Tryz.prog W 0 (fun _ => true) true f 3 cs = some y):∃ x,cs = clI x:=by
 obtain ⟨x,rfl,_⟩:=DataW.trod_int Tryz.underlying3 h;exact ⟨x,rfl⟩
theorem open_state14 {H:Type} {enc:TypeId × Value->H} {W:World} {base:Nat} {v:Value} {d:DataW H} {p:List MemPlace} (hv:Value.okWide Tryz.prog W .any base 28 v) (h:DataW.Trod enc Tryz.prog W 0 (fun _ => true) true 28 v d p) :
  ∃ (A0 A1 A2 A3 A4:Option Addr) (n0 n1 n2 n3 n4 c0 c1 c2 c3 c4:Nat) (sq:Int) (S:Sv14),v = .agg #[.slice A0 n0 c0,.slice A1 n1 c1,.slice A2 n2 c2,.slice A3 n3 c3,.slice A4 n4 c4,.int .i64 sq]/\(Small14 n0 n1 n2 n3 n4->SA14 W S A0 A1 A2 A3 A4 n0 n1 n2 n3 n4 c0 c1 c2 c3 c4 sq):=by
 obtain ⟨cs,rfl,hsz⟩:=okWide_struct Tryz.underlying28 hv;rw [show Tryz.prog.cellsOf 28 = 6 by kernel_rfl] at hsz;obtain ⟨l,rfl⟩:∃ l:List Value,cs = l.toArray:=⟨cs.toList,by simp⟩
 obtain ⟨fuel,hf⟩:=h;simp only [Value.cells] at hf;obtain ⟨n,hg⟩:=trod_fld14 Tryz.underlying28 hf
 match l,hsz with
 | [z0,z1,z2,z3,z4,z5],_ =>
  obtain ⟨y0,g0⟩:=hg 0 _ rfl;have g0:DataW.trod enc Tryz.prog W 0 (fun _ => true) true n 22 (([z0,z1,z2,z3,z4,z5].drop 0).take (Tryz.prog.cellsOf 22)) = some y0:=g0;rw [show Tryz.prog.cellsOf 22 = 1 by kernel_rfl] at g0;obtain ⟨A0,n0,c0,x0,e0,l0,r0,k0⟩:=open_rows14 len14C (by omega) Tryz.underlying22 (by kernel_rfl) elem14_C (v:=z0) (by simpa using g0)
  obtain ⟨y1,g1⟩:=hg 1 _ rfl;have g1:DataW.trod enc Tryz.prog W 0 (fun _ => true) true n 23 (([z0,z1,z2,z3,z4,z5].drop 1).take (Tryz.prog.cellsOf 23)) = some y1:=g1;rw [show Tryz.prog.cellsOf 23 = 1 by kernel_rfl] at g1;obtain ⟨A1,n1,c1,x1,e1,l1,r1,k1⟩:=open_rows14 len14T (by omega) Tryz.underlying23 (by kernel_rfl) elem14_T (v:=z1) (by simpa using g1)
  obtain ⟨y2,g2⟩:=hg 2 _ rfl;have g2:DataW.trod enc Tryz.prog W 0 (fun _ => true) true n 24 (([z0,z1,z2,z3,z4,z5].drop 2).take (Tryz.prog.cellsOf 24)) = some y2:=g2;rw [show Tryz.prog.cellsOf 24 = 1 by kernel_rfl] at g2;obtain ⟨A2,n2,c2,x2,e2,l2,r2,k2⟩:=open_rows14 len14H (by omega) Tryz.underlying24 (by kernel_rfl) elem14_H (v:=z2) (by simpa using g2)
  obtain ⟨y3,g3⟩:=hg 3 _ rfl;have g3:DataW.trod enc Tryz.prog W 0 (fun _ => true) true n 25 (([z0,z1,z2,z3,z4,z5].drop 3).take (Tryz.prog.cellsOf 25)) = some y3:=g3;rw [show Tryz.prog.cellsOf 25 = 1 by kernel_rfl] at g3;obtain ⟨A3,n3,c3,x3,e3,l3,r3,k3⟩:=open_rows14 len14L (by omega) Tryz.underlying25 (by kernel_rfl) elem14_L (v:=z3) (by simpa using g3)
  obtain ⟨y4,g4⟩:=hg 4 _ rfl;have g4:DataW.trod enc Tryz.prog W 0 (fun _ => true) true n 26 (([z0,z1,z2,z3,z4,z5].drop 4).take (Tryz.prog.cellsOf 26)) = some y4:=g4;rw [show Tryz.prog.cellsOf 26 = 1 by kernel_rfl] at g4;obtain ⟨A4,n4,c4,x4,e4,l4,r4,k4⟩:=open_rows14 len14I (by omega) Tryz.underlying26 (by kernel_rfl) elem14_I (v:=z4) (by simpa using g4)
  obtain ⟨y5,g5⟩:=hg 5 _ rfl;have g5:DataW.trod enc Tryz.prog W 0 (fun _ => true) true n 3 (([z0,z1,z2,z3,z4,z5].drop 5).take (Tryz.prog.cellsOf 3)) = some y5:=g5;rw [cells14_int] at g5;obtain ⟨sq,e5,_,_⟩:=DataW.trod_int Tryz.underlying3 g5;simp at e5;subst e0 e1 e2 e3 e4 e5
  refine ⟨A0,A1,A2,A3,A4,n0,n1,n2,n3,n4,c0,c1,c2,c3,c4,sq,⟨x0,x1,x2,x3,x4,sq⟩,rfl,fun hs => ?_⟩;obtain ⟨s0,s1,s2,s3,s4⟩:=hs;exact ⟨l0,l1,l2,l3,l4,r0,r1,r2,r3,r4,k0,k1,k2,k3,k4,by omega,by omega,by omega,by omega,by omega,rfl⟩
set_option maxRecDepth 100000 in
theorem carryKeeps_lifted (os:Os) (started:os.Started) (H:Type) (enc:TypeId × Value->H) :
  ReturnsInHanded {} Tryz.checked os 4 .any (Rows.carryKeepsSpec.pre6 enc Tryz.prog Tryz.f4 Rows.carryKeepsRow.domain false) (Rows.carryKeepsSpec.post enc Tryz.prog Tryz.f4 false true false false):=by
 refine returnsInHanded_of_change (C:=Tryz.checked) own_knob started (by kernel_rfl) Tryz.func4
  (ChangeSpec.witness6 (enc:=enc) (C:=Tryz.checked) false ⟨#[],#[.agg #[.slice none 0 0,.slice none 0 0,.slice none 0 0,.slice none 0 0,.slice none 0 0,.int .i64 0]],[]⟩ 8 (by kernel_rfl) (by kernel_rfl) (by kernel_rfl) (by kernel_rfl)) ?_
 intro W base args ds gs before hval0 hW hcnd _;have hval:∀ (j:Nat) t v,Tryz.f4.params[j]? = some t->args[j]? = some v->Value.okWide Tryz.prog W .any base t v:=hval0;have hW':DataW.Whole enc Tryz.prog Tryz.f4.params.toList Rows.carryKeepsSpec.vars false W args.toList ds gs before:=hW;obtain ⟨p,q,hA0,hV,hpq,hfz,hnd⟩:=hW
 have hA:DataW.TrodAll enc Tryz.prog W 0 (fun _ => true) true Tryz.f4.params.toList args.toList ds p:=hA0;rw [Tryz.params4] at hA hval;obtain ⟨v0,vs0,d0,ds0,p0,q0,hargs,rfl,rfl,t0,r0⟩:=trodAll_cons hA;obtain ⟨rfl,rfl,rfl⟩:=trodAll_nil r0;obtain rfl:args = #[v0]:=by cases args; simp_all
 obtain ⟨A00,A01,A02,A03,A04,n00,n01,n02,n03,n04,c00,c01,c02,c03,c04,q0,S0,rfl,h0⟩:=open_state14 (hval 0 28 v0 rfl rfl) t0
 have hwalk:Calls Tryz.prog 4 #[.agg #[.slice A00 n00 c00,.slice A01 n01 c01,.slice A02 n02 c02,.slice A03 n03 c03,.slice A04 n04 c04,.int .i64 q0]] W fun e w' => e = .returned (.bool true)/\Below W.heap.size W w':=carryKeeps_all W A00 A01 A02 A03 A04 n00 n01 n02 n03 n04 c00 c01 c02 c03 c04 q0 S0 h0
 refine hwalk.mono fun e W' ⟨he,hg⟩ => ?_
 subst he;exact ⟨_,rfl,law_post laid_out (by kernel_rfl) Tryz.underlying4 (by kernel_rfl) rfl hW' rfl hg⟩
theorem carryKeeps_over:Rows.carryKeepsRow.holds Tryz.pinned (OpenSpec.ofChange Rows.carryKeepsSpec) :=
 OpenClaim.holds_of_wide 4 Tryz.f4 rfl rfl rfl rfl rfl rfl rfl ⟨rfl,rfl,rfl,rfl,rfl⟩ rfl rfl rfl rfl rfl (by kernel_rfl) Tryz.func4 (by kernel_rfl)
  (of_decide_eq_true (by kernel_rfl)) (by unfold Func.isWrapper; first | (rw [if_pos (by decide +kernel)]; kernel_rfl) | (rw [if_neg (by decide +kernel)]; exact ⟨rfl,rfl⟩))
  (fun os started H enc _ => carryKeeps_lifted os started H enc)
theorem carryKeeps_holds:Rows.CarryKeepsSaid :=
 carryKeeps_over
end
end Go.Proofs.YtkdmnlihpebbkaaGreat
