import Derived.Test.YtkdmnlihpebbkaaGreatCK16
set_option linter.all false
set_option maxHeartbeats 8000000
namespace Go.Proofs.YtkdmnlihpebbkaaGreat
section
open Go.RowKit
set_option maxRecDepth 100000
theorem used16 (v:Value) (S:Sv14) (i:Int) (b:Bool) (w:World) (h:St14 w v S) (hb:us14 usH S.H i = b) :
  Calls Tryz.prog 76 #[v,.int .i64 i] w fun e w' => e = .returned (.bool b)/\Below w.heap.size w w':=by
 obtain ⟨A0,A1,A2,A3,A4,n0,n1,n2,n3,n4,c0,c1,c2,c3,c4,sq,rfl,hs⟩:=h;have hx0:=Bx14.new hs;have hxn:=hx0.step (Below.refl _ _).drew;obtain ⟨W1,hW1⟩:=exq (w.alloc (.cells #[.slice A0 n0 c0,.slice A1 n1 c1,.slice A2 n2 c2,.slice A3 n3 c3,.slice A4 n4 c4,.int .i64 sq] 28));rw [hW1] at hx0 hxn;obtain ⟨x,hx⟩:=exq (at14 usH S.H i);obtain ⟨xz,xf,xc,xq,xu⟩:=x
 have HX0:=qz hx0;obtain ⟨p0,p1,p2,p3,p4,p5⟩:=ce6 hx0.x;have HT:=qz (fun W h => thread14 (.agg #[.slice A0 n0 c0,.slice A1 n1 c1,.slice A2 n2 c2,.slice A3 n3 c3,.slice A4 n4 c4,.int .i64 sq]) S i xz xf xc xq xu b W h hb hx);clear hs hx0 hxn hb hx;go_enter Tryz.func76,Tryz.ntmps76;go_wp2_with fail;refine (HT.out _ HX0.out.st).mono ?_;rintro e u1 ⟨rfl,hb1⟩
 have HB1:=qz (HX0.out.b.trans (hb1.mono HX0.out.b.size));clear hb1 HT HX0 p0 p1 p2 p3 p4 p5 hW1;go_wp2_with fail;go_ret;exact ⟨rfl,HB1.out.trans ((b1' _ _).mono HB1.out.size)⟩
theorem next16 (v:Value) (S:Sv14) (i:Int) (w:World) (h:St14 w v S) :
  Calls Tryz.prog 77 #[v,.int .i64 i] w fun e w' => e = .returned (.int .i64 (nxt16 S i))/\Below w.heap.size w w':=by
 obtain ⟨A0,A1,A2,A3,A4,n0,n1,n2,n3,n4,c0,c1,c2,c3,c4,sq,rfl,hs⟩:=h;have hx0:=Bx14.new hs;have hxn:=hx0.step (Below.refl _ _).drew;obtain ⟨W1,hW1⟩:=exq (w.alloc (.cells #[.slice A0 n0 c0,.slice A1 n1 c1,.slice A2 n2 c2,.slice A3 n3 c3,.slice A4 n4 c4,.int .i64 sq] 28));rw [hW1] at hx0 hxn;obtain ⟨x,hx⟩:=exq (at14 usH S.H i);obtain ⟨xz,xf,xc,xq,xu⟩:=x
 obtain ⟨b,hb⟩:=exq (us14 usH S.H i);obtain ⟨y,hy⟩:=exq (at14 usL S.L xf);obtain ⟨yu,yh⟩:=y;obtain ⟨c,hc⟩:=exq (us14 usL S.L xf);have HN:Hid (nxt16 S i = if xz = 4 then xf else if xz = 6 then yh else -1):=qz (by rw [nxt16,hx,hy]);have HX0:=qz hx0;obtain ⟨p0,p1,p2,p3,p4,p5⟩:=ce6 hx0.x
 have HT:=qz (fun W h => thread14 (.agg #[.slice A0 n0 c0,.slice A1 n1 c1,.slice A2 n2 c2,.slice A3 n3 c3,.slice A4 n4 c4,.int .i64 sq]) S i xz xf xc xq xu b W h hb hx);have HK:=qz (fun W h => lock14 (.agg #[.slice A0 n0 c0,.slice A1 n1 c1,.slice A2 n2 c2,.slice A3 n3 c3,.slice A4 n4 c4,.int .i64 sq]) S xf yu yh c W h hc hy);clear hs hx0 hxn hb hx hc hy
 go_enter Tryz.func77,Tryz.ntmps77;go_wp2_with fail;refine (HT.out _ HX0.out.st).mono ?_;rintro e u1 ⟨rfl,hb1⟩;have HX1:=qz ((HX0.out.step hb1).step (b1' u1 (.cells #[.int .i64 xz,.int .i64 xf,.int .i64 xc,.int .i64 xq,.int .i64 xu] 60)));have hk1:=Blk.new u1 60 #[.int .i64 xz,.int .i64 xf,.int .i64 xc,.int .i64 xq,.int .i64 xu]
 obtain ⟨g1,hg1⟩:=exq u1.heap.size;have c0:=hk1.cell 0;have c1:=hk1.cell 1;obtain ⟨q0,q1,q2,q3,q4,q5⟩:=ce6 HX1.out.x;clear hb1 hk1 HT HX0 p0 p1 p2 p3 p4 p5 hW1;by_cases z4:xz = 4
 ·
  subst z4;have HE:Hid (nxt16 S i = xf):=qz (by rw [HN.out,if_pos rfl]);go_wp2_with fail;go_ret;exact ⟨by rw [HE.out]; rfl,HX1.out.b⟩
 ·
  have z4b:(xz == 4) = false:=by simp [z4]
  by_cases z6:xz = 6
  ·
   subst z6;have HE:Hid (nxt16 S i = yh):=qz (by rw [HN.out,if_neg (by decide),if_pos rfl]);go_wp2_with fail;refine (HK.out _ HX1.out.st).mono ?_;rintro e u2 ⟨rfl,hb2⟩;have hk2:=Blk.new u2 79 #[.bool yu,.int .i64 yh];have d1:=hk2.cell 1;have HB2:=qz (HX1.out.b.trans (hb2.mono HX1.out.b.size));clear hk2 hb2 HK HX1 q0 q1 q2 q3 q4 q5 c0 c1;go_wp2_with fail
   go_ret;exact ⟨by rw [HE.out]; rfl,HB2.out.trans ((b1' _ _).mono HB2.out.size)⟩
  ·
   have z6b:(xz == 6) = false:=by simp [z6]
   have HE:Hid (nxt16 S i = -1):=qz (by rw [HN.out,if_neg z4,if_neg z6]);go_wp2_with fail;go_ret;exact ⟨by rw [HE.out]; rfl,HX1.out.b⟩
def RetO16 (w:World) (l:List Nat) (e:Ending) (w':World):Prop:=∃ A c,e = .returned (.slice A l.length c)/\w'.ownsRow (w.heap.size + 1) 3 1 (.slice A l.length c) l.length (ints l)/\Below w.heap.size w w'
theorem tail16o (v:Value) (S:Sv14) (i:Int) (l:List Nat) (w:World) (h:St14 w v S) (hf:Fine14 S) (hl:Tl16 S i l) :
  Calls Tryz.prog 55 #[v,.int .i64 i] w (RetO16 w l):=by
 obtain ⟨A0,A1,A2,A3,A4,n0,n1,n2,n3,n4,c0,c1,c2,c3,c4,sq,rfl,hs⟩:=h;have HP:Hid (RetO16 w l = fun e w' => ∃ A c,e = .returned (.slice A l.length c)/\w'.ownsRow (w.heap.size + 1) 3 1 (.slice A l.length c) l.length (ints l)/\Below w.heap.size w w'):=qz rfl
 have HX0:Hid (Ti15 w (w.heap.size + 1) S A0 A1 A2 A3 A4 n0 n1 n2 n3 n4 c0 c1 c2 c3 c4 sq none 0 0 [] (w.alloc (.cells #[.slice A0 n0 c0,.slice A1 n1 c1,.slice A2 n2 c2,.slice A3 n3 c3,.slice A4 n4 c4,.int .i64 sq] 28))):=qz (Ti15.start hs (Bx14.new hs) (by omega) (by simp));have HL2:=qz hs.l2;have hm2:=hs.m2
 have HLN:Hid (l.length<=n2):=qz (by have:=hl.len hf; rw [hs.l2] at this; exact this);have HF:=qz hf;have HI:=qz hl;have HU:=qz (fun W j b (h:Bx14 w S A0 A1 A2 A3 A4 n0 n1 n2 n3 n4 c0 c1 c2 c3 c4 sq W) hb => used16 (.agg #[.slice A0 n0 c0,.slice A1 n1 c1,.slice A2 n2 c2,.slice A3 n3 c3,.slice A4 n4 c4,.int .i64 sq]) S j b W h.st hb)
 have HN:=qz (fun W j (h:Bx14 w S A0 A1 A2 A3 A4 n0 n1 n2 n3 n4 c0 c1 c2 c3 c4 sq W) => next16 (.agg #[.slice A0 n0 c0,.slice A1 n1 c1,.slice A2 n2 c2,.slice A3 n3 c3,.slice A4 n4 c4,.int .i64 sq]) S j W h.st);clear hs hf hl;go_enter Tryz.func55,Tryz.ntmps55;go_wp2_with fail
 go_loopg [1,4] (n2 + 1) (fun kx iv ov wr => ∃ (j:Int) (r p:List Nat) (A:Option Addr) (m c:Nat),iv = .int .i64 j/\ov = .slice A m c/\m + kx = n2 + 1/\m<=n2/\Hid (Tl16 S j r)/\Hid (p ++ r = l)/\Hid (Ti15 w (w.heap.size + 1) S A0 A1 A2 A3 A4 n0 n1 n2 n3 n4 c0 c1 c2 c3 c4 sq A m c p wr))
 case atStart => exact ⟨i,l,[],none,0,0,rfl,rfl,by omega,by omega,HI,qz rfl,HX0⟩
 case round =>
  clear HX0 HI;obtain ⟨j,r,p,A,m,c,rfl,rfl,hm,hmn,HI,HA,HW⟩:=hrel;obtain ⟨p0,p1,p2,p3,p4,p5⟩:=ce6 HW.out.b.x
  cases hu:us14 usH S.H j with
  | false =>
   have hc:=HU.out wr j false HW.out.b hu;have HE:Hid (p = l):=qz (by rw [<- HA.out,HI.out.no hu,List.append_nil]);have HCU:=qz hc;clear hc hu;go_wp2_with fail;refine HCU.out.mono ?_;rintro e u1 ⟨rfl,hb1⟩;have HW1:=qz (HW.out.step (hb1));clear hb1 HCU;go_wp2_with fail;go_ret;rw [HP.out]
   exact ⟨A,c,by rw [<- HW1.out.l,HE.out]; rfl,by have h9:=HW1.out.o; rw [<- HW1.out.l,HE.out] at h9; exact h9,HW1.out.b.b⟩
  | true =>
   obtain ⟨k,r2,hk,hr,ht⟩:=HI.out.cons HF.out hu;subst hk hr;have hc:=HU.out wr (k:Int) true HW.out.b hu;have HCU:=qz hc;have HT:=qz ht
   have hlt:m < n2:=by
    have h1:=HLN.out;have h2:=HW.out.l;rw [<- HA.out,List.length_append,List.length_cons] at h1;omega
   have hltI:(m:Int) < (n2:Int):=by omega
   have HCN:=qz (fun W h => HN.out W (k:Int) h);clear hc hu ht;go_wp2_with fail;refine HCU.out.mono ?_;rintro e u1 ⟨rfl,hb1⟩;have HW1:=qz (HW.out.step (hb1));obtain ⟨q0,q1,q2,q3,q4,q5⟩:=ce6 HW1.out.b.x;obtain ⟨Az,cz,W2,hrun,hti,hbl⟩:=HW1.out.push k (by omega);have HRUN:=qz hrun;have HW2:=qz hti;obtain ⟨y0,y1,y2,y3,y4,y5⟩:=ce6 HW2.out.b.x
   clear hb1 HCU hrun hti hbl;go_wp2_with (at_builtin; go_loud (refine wpList_append_14 _ rfl (.tmp 16) (.tmp 18) 26 rfl _ _ _ _ rfl rfl HRUN.out ?_));refine (HCN.out _ HW2.out.b).mono ?_;rintro e u3 ⟨rfl,hb3⟩;have HW3:=qz (HW2.out.step hb3);clear hb3;go_wp2_with fail
   go_roundg (n2 + 1 - (m + 1))
   case measure => omega
   case rel => exact ⟨nxt16 S (k:Int),r2,p ++ [k],Az,m + 1,cz,rfl,rfl,by omega,by omega,HT,qz (by rw [<- HA.out]; simp),HW3⟩
theorem tail16 (v:Value) (S:Sv14) (i:Int) (l:List Nat) (w:World) (h:St14 w v S) (hf:Fine14 S) (hl:Tl16 S i l) :
  Calls Tryz.prog 55 #[v,.int .i64 i] w (RetR15 w l):=(tail16o v S i l w h hf hl).mono fun _ _ ⟨A,c,h1,h2,h3⟩ => ⟨A,c,h1,rd15_own h2 rfl,h3⟩
structure By16 (w:World) (S:Sv14) (A0 A1 A2 A3 A4:Option Addr) (n0 n1 n2 n3 n4 c0 c1 c2 c3 c4:Nat) (sq:Int) (W:World):Prop where
 b:Bx14 w S A0 A1 A2 A3 A4 n0 n1 n2 n3 n4 c0 c1 c2 c3 c4 sq W
 s:SA14 w S A0 A1 A2 A3 A4 n0 n1 n2 n3 n4 c0 c1 c2 c3 c4 sq
theorem By16.step {w:World} {S:Sv14} {A0 A1 A2 A3 A4:Option Addr} {n0 n1 n2 n3 n4 c0 c1 c2 c3 c4:Nat} {sq:Int} {W W':World} (h:By16 w S A0 A1 A2 A3 A4 n0 n1 n2 n3 n4 c0 c1 c2 c3 c4 sq W) (hb:Below W.heap.size W W'):By16 w S A0 A1 A2 A3 A4 n0 n1 n2 n3 n4 c0 c1 c2 c3 c4 sq W':=⟨h.b.step hb,h.s⟩
theorem By16.low {w:World} {S:Sv14} {A0 A1 A2 A3 A4:Option Addr} {n0 n1 n2 n3 n4 c0 c1 c2 c3 c4:Nat} {sq:Int} {W W':World} (h:By16 w S A0 A1 A2 A3 A4 n0 n1 n2 n3 n4 c0 c1 c2 c3 c4 sq W) (hb:Below (w.heap.size + 1) W W'):By16 w S A0 A1 A2 A3 A4 n0 n1 n2 n3 n4 c0 c1 c2 c3 c4 sq W' :=
 ⟨⟨h.b.b.trans (hb.mono (by omega)),h.b.x.below hb (by omega),h.s.step (h.b.b.trans (hb.mono (by omega)))⟩,h.s⟩
theorem end16 (v:Value) (S:Sv14) (i:Int) (l:List Nat) (w:World) (h:St14 w v S) (hf:Fine14 S) (hl:Tl16 S i l) :
  Calls Tryz.prog 153 #[v,.int .i64 i] w fun e w' => e = .returned (.int .i64 (en16 l))/\Below w.heap.size w w':=by
 obtain ⟨A0,A1,A2,A3,A4,n0,n1,n2,n3,n4,c0,c1,c2,c3,c4,sq,rfl,hs⟩:=h;have hx0:=Bx14.new hs;have hxn:=hx0.step (Below.refl _ _).drew;obtain ⟨W1,hW1⟩:=exq (w.alloc (.cells #[.slice A0 n0 c0,.slice A1 n1 c1,.slice A2 n2 c2,.slice A3 n3 c3,.slice A4 n4 c4,.int .i64 sq] 28));rw [hW1] at hx0 hxn;have HX0:=qz hx0;obtain ⟨p0,p1,p2,p3,p4,p5⟩:=ce6 hx0.x
 have HLN:Hid (l.length<=1000000):=qz (by have:=hl.len hf; have:=hs.l2; have:=hs.m2; omega);have HT:=qz (fun W h => tail16 (.agg #[.slice A0 n0 c0,.slice A1 n1 c1,.slice A2 n2 c2,.slice A3 n3 c3,.slice A4 n4 c4,.int .i64 sq]) S i l W h hf hl);clear hs hx0 hxn hf hl;go_enter Tryz.func153,Tryz.ntmps153;go_wp2_with fail;refine (HT.out _ HX0.out.st).mono ?_
 rintro e u1 ⟨A,c,rfl,hr,hb1⟩;have HB1:=qz (HX0.out.b.trans (hb1.mono HX0.out.b.size));clear hb1 HT HX0 p0 p1 p2 p3 p4 p5 hW1;by_cases hl0:l = []
 ·
  subst hl0;have HE:Hid (en16 [] = -1):=qz rfl;clear hr;go_wp2_with fail;go_ret;exact ⟨by rw [HE.out]; rfl,HB1.out⟩
 ·
  obtain ⟨d,hd⟩:∃ d,l.length = d + 1:=⟨l.length - 1,by have:=List.length_pos_iff.2 hl0; omega⟩
  obtain ⟨a,of,hA,hab,hq⟩:=hr.at_ (show d < l.length by omega);subst hA;have HE:Hid (en16 l = ((nth l d:Nat):Int)):=qz (by rw [en16,if_neg hl0,lst16,hd]; rfl);have hnz:(((d + 1:Nat):Int) == 0) = false:=by simp; omega
  have hdm:d + 1<=1000000:=by have:=HLN.out; omega
  rw [hd];clear hr hab hd hl0;have i0:(0:Int)<=(d:Int):=by omega
  have i1:(d:Int) < ((d + 1:Nat):Int):=by omega
  have hsb:((d + 1:Nat):Int) - 1 = (d:Int):=by omega
  go_wp2_with fail;go_ret;exact ⟨by rw [HE.out]; rfl,HB1.out⟩
theorem lives16 (v:Value) (S:Sv14) (i:Int) (l:List Nat) (w:World) (h:St14 w v S) (hf:Fine14 S) (hl:Tl16 S i l) :
  Calls Tryz.prog 146 #[v,.int .i64 i] w fun e w' => e = .returned (.bool (lv16 S (en16 l)))/\Below w.heap.size w w':=by
 obtain ⟨A0,A1,A2,A3,A4,n0,n1,n2,n3,n4,c0,c1,c2,c3,c4,sq,rfl,hs⟩:=h;have hx0:By16 w S A0 A1 A2 A3 A4 n0 n1 n2 n3 n4 c0 c1 c2 c3 c4 sq _:=⟨Bx14.new hs,hs⟩
 have hxn:=hx0.step (Below.refl _ _).drew;obtain ⟨W1,hW1⟩:=exq (w.alloc (.cells #[.slice A0 n0 c0,.slice A1 n1 c1,.slice A2 n2 c2,.slice A3 n3 c3,.slice A4 n4 c4,.int .i64 sq] 28));rw [hW1] at hx0 hxn;obtain ⟨x,hx⟩:=exq (at14 usH S.H (en16 l));obtain ⟨xz,xf,xc,xq,xu⟩:=x;obtain ⟨b,hb⟩:=exq (us14 usH S.H (en16 l))
 have HLV:Hid (lv16 S (en16 l) = ((xz == 2) || (xz == 3))):=qz (by rw [lv16,hx]);have HE:=qz (fun W h => end16 (.agg #[.slice A0 n0 c0,.slice A1 n1 c1,.slice A2 n2 c2,.slice A3 n3 c3,.slice A4 n4 c4,.int .i64 sq]) S i l W h hf hl)
 have HT:=qz (fun W h => thread14 (.agg #[.slice A0 n0 c0,.slice A1 n1 c1,.slice A2 n2 c2,.slice A3 n3 c3,.slice A4 n4 c4,.int .i64 sq]) S (en16 l) xz xf xc xq xu b W h hb hx);have HXN:=qz hxn;clear hs hx0 hxn hf hl hx hb;go_enter Tryz.func146,Tryz.ntmps146;obtain ⟨wn,hwn⟩:=exq W1.drew;rw [hwn] at HXN;go_wp2_with fail
 refine wp_region_held_drew (S:=By16 w S A0 A1 A2 A3 A4 n0 n1 n2 n3 n4 c0 c1 c2 c3 c4 sq) (by kernel_rfl) (by rw [hwn]; exact HXN.out) (fun hHeld => ?_);rw [hwn] at hHeld ⊢;clear hwn;have HBS:=HXN;refine tk 0 (v:=?_) (fun W hS => ?_) ?_;rotate_left
 ·
  try dsimp only at hS
  obtain ⟨z0,z1,z2,z3,z4,z5⟩:=ce6 hS.b.x;go_simp
  try with_reducible rfl
 try simp only [Act.put,pt1,pt2,pt3]
 refine tk 1 (v:=?_) (fun W hS => ?_) ?_;rotate_left
 ·
  try dsimp only at hS
  obtain ⟨z0,z1,z2,z3,z4,z5⟩:=ce6 hS.b.x;go_simp
  try with_reducible rfl
 try simp only [Act.put,pt1,pt2,pt3]
 refine tkq 2 ?_;refine wpAnyH_ready (rs:=[3,8]) (by kernel_rfl) (by simp) (AllReadyH.cons (op_of rfl) (fun K hK => ?_) (AllReadyH.cons (op_of rfl) (fun K hK => ?_) AllReadyH.nil))
 ·
  skip;have HBS0:=HBS;go_simp;refine (HE.out _ HBS0.out.b.st).mono ?_;rintro e wo ⟨rfl,hb⟩;have HBS:=qz (HBS0.out.step hb);clear hb HBS0;obtain ⟨wn,hwn⟩:∃ W,W = wo:=⟨_,rfl⟩
  subst hwn;refine koq hK HBS.out (fun hHeld=>?_);clear hK K;refine wpAnyH_ready (rs:=[4,8]) (by kernel_rfl) (by simp) (AllReadyH.cons (op_of rfl) (fun K hK => ?_) (AllReadyH.cons (op_of rfl) (fun K hK => ?_) AllReadyH.nil))
  ·
   skip;have HBS0:=HBS;go_simp;refine (HT.out _ HBS0.out.b.st).mono ?_;rintro e wo ⟨rfl,hb⟩;have HBS:=qz (HBS0.out.step hb);clear hb HBS0;obtain ⟨wn,hwn⟩:∃ W,W = wo:=⟨_,rfl⟩
   subst hwn;refine koq hK HBS.out (fun hHeld=>?_);clear hK K;refine tkq 5 ?_;refine tkq 6 ?_;refine tkq 7 ?_;refine rdy 8 (fun K hK => ?_);have HBS0:=HBS;go_simp;have HBS:=qz (HBS0.out.step (b1' wn (.cells #[.int .i64 0,.int .i64 0,.int .i64 0,.int .i64 0,.int .i64 0] 60)))
   have HK0:=qz (Blk.new wn 60 #[.int .i64 0,.int .i64 0,.int .i64 0,.int .i64 0,.int .i64 0]);have hgl:w.heap.size < wn.heap.size:=HBS0.out.b.x.lt;obtain ⟨g,hg⟩:=exq wn.heap.size;obtain ⟨wm,hwm⟩:=exq (wn.alloc (.cells #[.int .i64 0,.int .i64 0,.int .i64 0,.int .i64 0,.int .i64 0] 60));rw [hg] at HK0 hgl;rw [hwm] at HBS HK0;rw [hg,hwm];clear hg hwm HBS0
   obtain ⟨wn,hwn⟩:∃ W,W = wm:=⟨_,rfl⟩
   subst hwn;refine koq hK HBS.out (fun hHeld=>?_);clear hK K;refine rdy 9 (fun K hK => ?_);obtain ⟨k0,k1,k2,k3,k4⟩:=ce5 HK0.out;have f0:=HK0.out.frozen 0;have f1:=HK0.out.frozen 1;have f2:=HK0.out.frozen 2;have f3:=HK0.out.frozen 3;have f4:=HK0.out.frozen 4;go_simp
   obtain ⟨wm,hwm⟩:=exq (((((wn.setCell ⟨g,0,none⟩ (.int .i64 xz)).setCell ⟨g,1,none⟩ (.int .i64 xf)).setCell ⟨g,2,none⟩ (.int .i64 xc)).setCell ⟨g,3,none⟩ (.int .i64 xq)).setCell ⟨g,4,none⟩ (.int .i64 xu))
   have hk2:Blk wm g 60 #[.int .i64 xz,.int .i64 xf,.int .i64 xc,.int .i64 xq,.int .i64 xu]:=by
    rw [<- hwm];have h:=((((HK0.out.set_ 0 (.int .i64 xz)).set_ 1 (.int .i64 xf)).set_ 2 (.int .i64 xc)).set_ 3 (.int .i64 xq)).set_ 4 (.int .i64 xu);simpa using h
   have hl5:Below (w.heap.size + 1) wn wm:=by
    rw [<- hwm];exact (((((Below.refl _ _).setCell (p:=⟨g,0,none⟩) hgl _).setCell (p:=⟨g,1,none⟩) hgl _).setCell (p:=⟨g,2,none⟩) hgl _).setCell (p:=⟨g,3,none⟩) hgl _).setCell (p:=⟨g,4,none⟩) hgl _
   rw [hwm];have HBS0:=HBS;have HBS:=qz (HBS0.out.low hl5);have HK1:=qz hk2;clear hwm hk2 hl5 HK0 HBS0 k0 f0 k1 f1 k2 f2 k3 f3 k4 f4;obtain ⟨wn,hwn⟩:∃ W,W = wm:=⟨_,rfl⟩
   subst hwn;refine koq hK HBS.out (fun hHeld=>?_);clear hK K;refine rdy 10 (fun K hK => ?_);go_simp;refine koq hK HBS.out (fun hHeld=>?_);clear hK K;refine wpAnyH_done (by kernel_rfl) ?_ _;clear hHeld;have c0:=HK1.out.cell 0;have HB:=qz HBS.out.b.b;clear HK1 HBS HXN;by_cases z2:xz = 2
   ·
    subst z2;have HE:Hid (lv16 S (en16 l) = true):=qz (by rw [HLV.out]; rfl);go_wp2_with fail;go_ret;exact ⟨by rw [HE.out]; rfl,HB.out⟩
   ·
    have hz2:(xz == 2) = false:=by simp [z2]
    have HE:Hid (lv16 S (en16 l) = (xz == 3)):=qz (by rw [HLV.out,hz2]; rfl);go_wp2_with fail;go_ret;exact ⟨by rw [HE.out]; rfl,HB.out⟩
  ·
   skip;have HBS0:=HBS;go_simp;have HBS:=qz (HBS0.out.step (b1' wn (.cells #[.int .i64 0,.int .i64 0,.int .i64 0,.int .i64 0,.int .i64 0] 60)));have HK0:=qz (Blk.new wn 60 #[.int .i64 0,.int .i64 0,.int .i64 0,.int .i64 0,.int .i64 0]);have hgl:w.heap.size < wn.heap.size:=HBS0.out.b.x.lt;obtain ⟨g,hg⟩:=exq wn.heap.size
   obtain ⟨wm,hwm⟩:=exq (wn.alloc (.cells #[.int .i64 0,.int .i64 0,.int .i64 0,.int .i64 0,.int .i64 0] 60));rw [hg] at HK0 hgl;rw [hwm] at HBS HK0;rw [hg,hwm];clear hg hwm HBS0;obtain ⟨wn,hwn⟩:∃ W,W = wm:=⟨_,rfl⟩
   subst hwn;refine koq hK HBS.out (fun hHeld=>?_);clear hK K;refine rdy 4 (fun K hK => ?_);have HBS0:=HBS;go_simp;refine (HT.out _ HBS0.out.b.st).mono ?_;rintro e wo ⟨rfl,hb⟩;have HBS:=qz (HBS0.out.step hb);have HK0:=qz (HK0.out.below hb HK0.out.lt);clear hb HBS0;obtain ⟨wn,hwn⟩:∃ W,W = wo:=⟨_,rfl⟩
   subst hwn;refine koq hK HBS.out (fun hHeld=>?_);clear hK K;refine tkq 5 ?_;refine tkq 6 ?_;refine tkq 7 ?_;refine rdy 9 (fun K hK => ?_);obtain ⟨k0,k1,k2,k3,k4⟩:=ce5 HK0.out;have f0:=HK0.out.frozen 0;have f1:=HK0.out.frozen 1;have f2:=HK0.out.frozen 2;have f3:=HK0.out.frozen 3;have f4:=HK0.out.frozen 4;go_simp
   obtain ⟨wm,hwm⟩:=exq (((((wn.setCell ⟨g,0,none⟩ (.int .i64 xz)).setCell ⟨g,1,none⟩ (.int .i64 xf)).setCell ⟨g,2,none⟩ (.int .i64 xc)).setCell ⟨g,3,none⟩ (.int .i64 xq)).setCell ⟨g,4,none⟩ (.int .i64 xu))
   have hk2:Blk wm g 60 #[.int .i64 xz,.int .i64 xf,.int .i64 xc,.int .i64 xq,.int .i64 xu]:=by
    rw [<- hwm];have h:=((((HK0.out.set_ 0 (.int .i64 xz)).set_ 1 (.int .i64 xf)).set_ 2 (.int .i64 xc)).set_ 3 (.int .i64 xq)).set_ 4 (.int .i64 xu);simpa using h
   have hl5:Below (w.heap.size + 1) wn wm:=by
    rw [<- hwm];exact (((((Below.refl _ _).setCell (p:=⟨g,0,none⟩) hgl _).setCell (p:=⟨g,1,none⟩) hgl _).setCell (p:=⟨g,2,none⟩) hgl _).setCell (p:=⟨g,3,none⟩) hgl _).setCell (p:=⟨g,4,none⟩) hgl _
   rw [hwm];have HBS0:=HBS;have HBS:=qz (HBS0.out.low hl5);have HK1:=qz hk2;clear hwm hk2 hl5 HK0 HBS0 k0 f0 k1 f1 k2 f2 k3 f3 k4 f4;obtain ⟨wn,hwn⟩:∃ W,W = wm:=⟨_,rfl⟩
   subst hwn;refine koq hK HBS.out (fun hHeld=>?_);clear hK K;refine rdy 10 (fun K hK => ?_);go_simp;refine koq hK HBS.out (fun hHeld=>?_);clear hK K;refine wpAnyH_done (by kernel_rfl) ?_ _;clear hHeld;have c0:=HK1.out.cell 0;have HB:=qz HBS.out.b.b;clear HK1 HBS HXN;by_cases z2:xz = 2
   ·
    subst z2;have HE:Hid (lv16 S (en16 l) = true):=qz (by rw [HLV.out]; rfl);go_wp2_with fail;go_ret;exact ⟨by rw [HE.out]; rfl,HB.out⟩
   ·
    have hz2:(xz == 2) = false:=by simp [z2]
    have HE:Hid (lv16 S (en16 l) = (xz == 3)):=qz (by rw [HLV.out,hz2]; rfl);go_wp2_with fail;go_ret;exact ⟨by rw [HE.out]; rfl,HB.out⟩
 ·
  skip;have HBS0:=HBS;go_simp;have HBS:=qz (HBS0.out.step (b1' wn (.cells #[.int .i64 0,.int .i64 0,.int .i64 0,.int .i64 0,.int .i64 0] 60)));have HK0:=qz (Blk.new wn 60 #[.int .i64 0,.int .i64 0,.int .i64 0,.int .i64 0,.int .i64 0]);have hgl:w.heap.size < wn.heap.size:=HBS0.out.b.x.lt;obtain ⟨g,hg⟩:=exq wn.heap.size
  obtain ⟨wm,hwm⟩:=exq (wn.alloc (.cells #[.int .i64 0,.int .i64 0,.int .i64 0,.int .i64 0,.int .i64 0] 60));rw [hg] at HK0 hgl;rw [hwm] at HBS HK0;rw [hg,hwm];clear hg hwm HBS0;obtain ⟨wn,hwn⟩:∃ W,W = wm:=⟨_,rfl⟩
  subst hwn;refine koq hK HBS.out (fun hHeld=>?_);clear hK K;refine rdy 3 (fun K hK => ?_);have HBS0:=HBS;go_simp;refine (HE.out _ HBS0.out.b.st).mono ?_;rintro e wo ⟨rfl,hb⟩;have HBS:=qz (HBS0.out.step hb);have HK0:=qz (HK0.out.below hb HK0.out.lt);clear hb HBS0;obtain ⟨wn,hwn⟩:∃ W,W = wo:=⟨_,rfl⟩
  subst hwn;refine koq hK HBS.out (fun hHeld=>?_);clear hK K;refine rdy 4 (fun K hK => ?_);have HBS0:=HBS;go_simp;refine (HT.out _ HBS0.out.b.st).mono ?_;rintro e wo ⟨rfl,hb⟩;have HBS:=qz (HBS0.out.step hb);have HK0:=qz (HK0.out.below hb HK0.out.lt);clear hb HBS0;obtain ⟨wn,hwn⟩:∃ W,W = wo:=⟨_,rfl⟩
  subst hwn;refine koq hK HBS.out (fun hHeld=>?_);clear hK K;refine tkq 5 ?_;refine tkq 6 ?_;refine tkq 7 ?_;refine rdy 9 (fun K hK => ?_);obtain ⟨k0,k1,k2,k3,k4⟩:=ce5 HK0.out;have f0:=HK0.out.frozen 0;have f1:=HK0.out.frozen 1;have f2:=HK0.out.frozen 2;have f3:=HK0.out.frozen 3;have f4:=HK0.out.frozen 4;go_simp
  obtain ⟨wm,hwm⟩:=exq (((((wn.setCell ⟨g,0,none⟩ (.int .i64 xz)).setCell ⟨g,1,none⟩ (.int .i64 xf)).setCell ⟨g,2,none⟩ (.int .i64 xc)).setCell ⟨g,3,none⟩ (.int .i64 xq)).setCell ⟨g,4,none⟩ (.int .i64 xu))
  have hk2:Blk wm g 60 #[.int .i64 xz,.int .i64 xf,.int .i64 xc,.int .i64 xq,.int .i64 xu]:=by
   rw [<- hwm];have h:=((((HK0.out.set_ 0 (.int .i64 xz)).set_ 1 (.int .i64 xf)).set_ 2 (.int .i64 xc)).set_ 3 (.int .i64 xq)).set_ 4 (.int .i64 xu);simpa using h
  have hl5:Below (w.heap.size + 1) wn wm:=by
   rw [<- hwm];exact (((((Below.refl _ _).setCell (p:=⟨g,0,none⟩) hgl _).setCell (p:=⟨g,1,none⟩) hgl _).setCell (p:=⟨g,2,none⟩) hgl _).setCell (p:=⟨g,3,none⟩) hgl _).setCell (p:=⟨g,4,none⟩) hgl _
  rw [hwm];have HBS0:=HBS;have HBS:=qz (HBS0.out.low hl5);have HK1:=qz hk2;clear hwm hk2 hl5 HK0 HBS0 k0 f0 k1 f1 k2 f2 k3 f3 k4 f4;obtain ⟨wn,hwn⟩:∃ W,W = wm:=⟨_,rfl⟩
  subst hwn;refine koq hK HBS.out (fun hHeld=>?_);clear hK K;refine rdy 10 (fun K hK => ?_);go_simp;refine koq hK HBS.out (fun hHeld=>?_);clear hK K;refine wpAnyH_done (by kernel_rfl) ?_ _;clear hHeld;have c0:=HK1.out.cell 0;have HB:=qz HBS.out.b.b;clear HK1 HBS HXN;by_cases z2:xz = 2
  ·
   subst z2;have HE:Hid (lv16 S (en16 l) = true):=qz (by rw [HLV.out]; rfl);go_wp2_with fail;go_ret;exact ⟨by rw [HE.out]; rfl,HB.out⟩
  ·
   have hz2:(xz == 2) = false:=by simp [z2]
   have HE:Hid (lv16 S (en16 l) = (xz == 3)):=qz (by rw [HLV.out,hz2]; rfl);go_wp2_with fail;go_ret;exact ⟨by rw [HE.out]; rfl,HB.out⟩
theorem lt36_18 {x:Nat} (h:x < 4294967296 ^ 18):x < 65536 ^ 36:=Nat.lt_of_lt_of_le h (by decide)
def Sq18 (x:Rat):Prop:=0<=x/\(qr18 x).1 < 65536 ^ 36/\(qr18 x).2 < 65536 ^ 36
theorem sumR_mono {f g:Nat->Rat}:∀ {n:Nat},(∀ k,k < n->f k<=g k)->sumR f n<=sumR g n
 | 0,_ => Rat.le_refl
 | n + 1,h => by
  have h1:=sumR_mono (n:=n) (fun k hk => h k (by omega));have h2:=h n (by omega);rw [sumR,sumR]
  grind
theorem tsum18_all {f:Nat->Bool} (w:Nat->Rat):∀ n,tsum18 w (all11 f n) (all11 f n).length = sumR (fun k => if f k = true then w k else 0) n
 | 0 => rfl
 | n + 1 => by
  have ih:=tsum18_all (f:=f) w n;rw [all11_next,sumR];by_cases h:f n = true
  · rw [if_pos h,List.length_append,List.length_singleton,tsum18,tsum18_low (Nat.le_refl _),nth15_at rfl,ih,if_pos h]
  ·
   rw [if_neg h,List.append_nil,ih,if_neg h]
   grind
theorem car19_list {S:Sv14} (hf:Fine14 S) (w:Nat->Rat) {e:Nat} (he:e < S.H.length):car19 S w e = w e + tsum18 w (bh16 S (e:Int) false) (bh16 S (e:Int) false).length:=by
 have h1:∀ x,bhb16 S (e:Int) false x = wayb (Ta16 S) x e:=fun x => by
  unfold bhb16;rw [if_neg (by decide),Int.toNat_natCast]
  cases hu:us14 usH S.H (e:Int) with
  | true => rw [Bool.true_and]
  | false =>
   rw [Bool.false_and];refine (Bool.eq_false_iff.2 (fun h => ?_)).symm;have:=(way16_to hf (wayb_yes.1 h)).2;rw [hu] at this;cases this
 unfold bh16;rw [tsum18_all,car19];have h2:=sumR_one (x:=e) (w e) S.H.length;rw [if_pos he] at h2;rw [<- h2,<- sumR_add];refine sumR_congr (fun x _ => ?_);rw [h1];by_cases hx:x = e
 ·
  subst hx;have hn:¬ wayb (Ta16 S) x x = true:=fun h => way16_ring hf x (wayb_yes.1 h)
  rw [if_pos (inc19_yes.2 (.inl rfl)),if_pos rfl,if_neg hn]
  grind
 ·
  by_cases hw:wayb (Ta16 S) x e = true
  ·
   rw [if_pos (inc19_yes.2 (.inr (wayb_yes.1 hw))),if_neg hx,if_pos hw]
   grind
  ·
   rw [if_neg (fun h => by
    rcases inc19_yes.1 h with h | h
    · exact hx h
    · exact hw (wayb_yes.2 h)),if_neg hx,if_neg hw]
   grind
theorem car19_nonneg {S:Sv14} {w:Nat->Rat} (hw:∀ x,0<=w x) (e:Nat):0<=car19 S w e:=sumR18_pos (fun x _ => by
 split
 · exact hw x
 · exact Rat.le_refl)
theorem car19_le {S:Sv14} {w:Nat->Rat} (hw:∀ x,0<=w x) (e:Nat):car19 S w e<=sumR w S.H.length:=sumR_mono (fun x _ => by
 split
 · exact Rat.le_refl
 · exact hw x)
theorem car19_next {S:Sv14} (hf:Fine14 S) {w:Nat->Rat} (hw:∀ x,0<=w x) {i k:Nat} (hi:i < S.H.length) (hn:nxt16 S (i:Int) = (k:Int)):car19 S w i<=car19 S w k:=sumR_mono (fun x _ => by
 have ha:(i,k)∈Ta16 S:=(ta16_mem hf).2 ⟨hi,hn⟩;by_cases h:InC19 S x i
 ·
  have h2:InC19 S x k:=by
   rcases h with rfl | h
   · exact .inr (.one ha)
   · exact .inr (.step h ha)
  rw [if_pos (inc19_yes.2 h),if_pos (inc19_yes.2 h2)];exact Rat.le_refl
 ·
  rw [if_neg (fun g => h (inc19_yes.1 g))];split
  · exact hw x
  · exact Rat.le_refl)
theorem tsum18_up {f:Nat->Rat} {l:List Nat} (h:∀ k,0<=f k):∀ {i j:Nat},i<=j->tsum18 f l i<=tsum18 f l j
 | i,0,hij => by
          obtain rfl:i = 0:=by omega
          exact Rat.le_refl
 | i,j + 1,hij => by
  rcases (show i<=j\/i = j + 1 by omega) with hl | rfl
  ·
   have h1:=tsum18_up (l:=l) h hl;have h2:=h (nth l j);rw [tsum18]
   grind
  · exact Rat.le_refl
theorem Wo18.car_sq {S:Sv14} {wC wT:Nat->Rat} (h:Wo18 S wC wT) (hf:Fine14 S) :
  (∀ x,0<=th18 S wT x)/\(∀ e,Sq18 (car19 S (th18 S wT) e))/\∀ e i,e < S.H.length->i<=(bh16 S (e:Int) false).length->Sq18 (th18 S wT e + tsum18 (th18 S wT) (bh16 S (e:Int) false) i):=by
 obtain ⟨hc,ht⟩:=h.small hf
 have hn:∀ x,0<=th18 S wT x:=fun x => by
  rw [th18_list];exact tsum18_nonneg (fun k => (ht k).2.1) _
 have hp:∀ x,Prt18 (pa18 S) (th18 S wT x):=fun x => by
  rw [th18_list];exact tsum18_part (fun k => (ht k).1) _
 obtain ⟨X,hX⟩:∃ X:Rat,((96 ^ 16 * 134217728:Nat):Rat) = X:=⟨_,rfl⟩
 have hb:sumR (th18 S wT) S.H.length<=X:=by
  rw [h.keeps hf];have h1:=(hc 0).2.2;rw [h.c 0,if_pos rfl,hX] at h1;exact h1
 have key:∀ {x:Rat},0<=x->Prt18 (pa18 S) x->x<=sumR (th18 S wT) S.H.length->Sq18 x:=fun {x} h0 hpx hx => by
  have h1:=qr18_rt h0
  have h2:=fit18 hf h1.1 h1.2 hpx 1 (by omega) (by
   rw [hX];simp
   grind)
  exact ⟨h0,lt36_18 h2.1,lt36_18 h2.2⟩
 have hpc:∀ e,Prt18 (pa18 S) (car19 S (th18 S wT) e):=fun e => Prt18.sum (fun k _ => by
  split
  · exact hp k
  · exact Prt18.zero _)
 refine ⟨hn,fun e => key (car19_nonneg hn e) (hpc e) (car19_le hn e),fun e i he hi => ?_⟩;have h1:=car19_list hf (th18 S wT) he;have h2:=tsum18_up (l:=bh16 S (e:Int) false) hn hi;have h3:=car19_le (S:=S) hn e;have h4:=hn e;have h5:=tsum18_nonneg (l:=bh16 S (e:Int) false) hn i;exact key (by grind) ((hp e).add (tsum18_part hp i)) (by grind)
theorem th18_unused {S:Sv14} (hf:Fine14 S) {wT:Nat->Rat} {i:Nat} (hu:us14 usH S.H (i:Int) = false):th18 S wT i = 0:=by
 rw [th18_ofs hf.2.2.2.2.1];unfold ofs15;rw [if_neg (by rw [hu]; decide)];rfl
def Fa17 (L:Nat) (A:Option Addr) (xs:List Nat):Prop:=xs≠[]->∃ b o,A = some ⟨b,o,none⟩/\L<=b
theorem Fa17.more {L L':Nat} {A:Option Addr} {xs:List Nat} (h:Fa17 L A xs) (hL:L'<=L):Fa17 L' A xs:=fun hx => by
 obtain ⟨b,o,h1,h2⟩:=h hx;exact ⟨b,o,h1,by omega⟩
theorem Fa17.of_own {w:World} {L n c:Nat} {A:Option Addr} {xs:List Nat} (h:w.ownsRow L 3 1 (.slice A n c) n (ints xs)) (hl:xs.length = n):Fa17 L A xs:=fun hx => by
 have hpos:0 < xs.length:=List.length_pos_iff.2 hx;rcases h.2 with ⟨_,h0⟩ | ⟨g,cap,cur,hv,hg,_,_⟩
 · omega
 ·
  injection hv with hA
  exact ⟨g,0,hA,hg⟩
def RetO17 (w:World) (xs:List Nat) (e:Ending) (w':World):Prop:=∃ A c,e = .returned (.slice A xs.length c)/\Rd w' w'.heap.size A xs/\Fa17 w.heap.size A xs/\Below w.heap.size w w'
def RetF17 (B:Nat) (w:World) (ys:List Nat) (e:Ending) (w':World):Prop:=∃ A c,e = .returned (.slice A ys.length c)/\Rd w' w'.heap.size A ys/\Fa17 B A ys/\Below B w w'
theorem del17 (A:Option Addr) (xs:List Nat) (n c gx B:Nat) (w:World) (hl:xs.length = n) (ho:w.ownsRow B 3 1 (.slice A n c) n (ints xs)) (hn:n<=1000000) (hB:B<=w.heap.size) (p:Nat->Bool)
  (hcl:∀ W,Below B w W->∀ x,x∈xs->Calls Tryz.prog 103 #[.int .i64 ((x:Nat):Int),.pointer (some ⟨gx,0,none⟩)] W fun e w' => e = .returned (.bool (p x))/\Below W.heap.size W w') :
  Calls Tryz.prog 102 #[.slice A n c,.func (.func 103) #[] #[.pointer (some ⟨gx,0,none⟩)]] w (RetF17 B w (xs.filter (fun x => !p x))):=by
 have HP:Hid (RetF17 B w (xs.filter (fun x => !p x)) = fun e w' => ∃ A c,e = .returned (.slice A (xs.filter (fun x => !p x)).length c)/\Rd w' w'.heap.size A (xs.filter (fun x => !p x))/\Fa17 B A (xs.filter (fun x => !p x))/\Below B w w'):=qz rfl
 have HI:=qz (idx15a A xs n c gx w.heap.size w hl (rd15_own ho hl) hn (Nat.le_refl _) p (fun W hW => hcl W (hW.mono hB)));have HL:=qz hl;have HO:=qz ho;have HC:=qz hcl;have hcap:=own14_cap ho;clear hl ho hcl;go_enter Tryz.func102,Tryz.ntmps102;go_wp2_with fail;refine HI.out.mono ?_;rintro e w1 ⟨r,rfl,hf,hb1⟩;clear HI
 rcases hf with ⟨k,h1,rfl,h2,h3⟩ | ⟨rfl,h2⟩
 ·
  obtain ⟨g,hA,hgB⟩:∃ g,A = some ⟨g,0,none⟩/\B<=g:=by
   rcases HO.out.2 with ⟨_,h0⟩ | ⟨g,cap,cur,hv,hg,_⟩
   · omega
   ·
    injection hv with hA
    exact ⟨g,hA,hg⟩
  subst hA;have HGB:=qz hgB;have hi1:Ib13 w1 g n (nth xs):=(Ib13.of_own HO.out HL.out).below hb1 (HO.out.lt g rfl).2
  have HD0:Hid (Df15 w B g n xs p k (k + 1) w1):=qz (by
   have hk:=HL.out
   have e1:(xs.take (k + 1)).filter (fun x => !p x) = xs.take k:=by
    rw [filt15_next (by omega),filt15_head (by omega) (fun t ht => by rw [h3 t ht]; rfl),h2];simp
   refine ⟨hb1.mono hB,by rw [e1,List.length_take]; omega,nth xs,hi1,fun t ht => ?_,fun t _ _ => rfl⟩
   rw [e1,nth15_take ht])
  have e0:¬ (k:Int) = -1:=by omega
  have e1:((k:Int) == -1) = false:=by simp [e0]
  obtain ⟨j0,hj0⟩:=exq (k + 1);have hw0:IntKind.i64.wrap ((k:Int) + 1) = ((j0:Nat):Int):=by rw [IntKind.wrap_i64]; omega
  rw [hj0] at HD0;have HWD:=qz (show k < j0/\j0<=n by omega);clear hi1 h2 h3 hb1 hj0;go_wp2_with fail;go_loopw [5,6] (fun i j wr => ∃ k jj:Nat,i = .int .i64 (k:Int)/\j = .int .i64 (jj:Int)/\k < jj/\jj<=n/\Hid (Df15 w B g n xs p k jj wr)) (fun _ j _ => n - (intOf j).toNat)
  case atStart => exact ⟨k,j0,rfl,rfl,HWD.out.1,HWD.out.2,HD0⟩
  case round =>
   clear HD0 HWD h1;obtain ⟨k,jj,rfl,rfl,hkj,hj,HD⟩:=hrel;by_cases hjn:jj < n
   ·
    obtain ⟨h,hib,hlo,hhi⟩:=HD.out.r;have q0:=(hib.cells hjn).1;rw [hhi jj (Nat.le_refl _) hjn] at q0;obtain ⟨x,hx⟩:=exq (nth xs jj);rw [hx] at q0;obtain ⟨bp,hbp⟩:=exq (p x);have hc:=HC.out _ HD.out.b x (by rw [<- hx,nth_in (by have:=HL.out; omega)]; exact List.getElem_mem _);rw [hbp] at hc;have HCK:=qz hc
    have HX:Hid ((xs.take (jj + 1)).filter (fun x => !p x) = (xs.take jj).filter (fun x => !p x) ++ if bp then [] else [x]):=qz (by
     rw [filt15_next (by have:=HL.out; omega),hx,hbp]
     cases bp <;> rfl)
    have HIB:=qz hib;have HLO:=qz hlo;have HHI:=qz hhi;have HGW:=HIB.out.lt;have i0:(0:Int)<=(jj:Int):=by omega
    have i1:(jj:Int) < (n:Int):=by omega
    have i2:(0:Int)<=(k:Int):=by omega
    have i3:(k:Int) < (n:Int):=by omega
    clear hx hbp hc hib hlo hhi
    cases bp with
    | true =>
     go_wp2_with fail;refine HCK.out.mono ?_;rintro e w2 ⟨rfl,hb2⟩
     have HD2:Hid (Df15 w B g n xs p k (jj + 1) w2):=qz (by
      have hX:=HX.out;simp only [if_true,List.append_nil] at hX;refine ⟨HD.out.b.trans (hb2.mono (by have:=HD.out.b.size; omega)),by rw [hX]; exact HD.out.l,h,HIB.out.below hb2 HGW,?_,fun t h1 h2 => HHI.out t (by omega) h2⟩;rw [hX]
      exact HLO.out)
     clear HCK hb2 HIB HLO HHI HX HD;go_wp2_with fail;go_roundw
     case rel => exact ⟨k,jj + 1,rfl,by go_num,by omega,by omega,HD2⟩
     case measure => simp [intOf]; omega
    | false =>
     go_wp2_with fail;refine HCK.out.mono ?_;rintro e w2 ⟨rfl,hb2⟩;have hi2:=HIB.out.below hb2 HGW;have f2:=(hi2.cells (k:=k) (by omega)).2;have c2:=(hi2.cells (k:=k) (by omega)).1
     have HD2:Hid (Df15 w B g n xs p (k + 1) (jj + 1) (w2.setCell ⟨g,k,none⟩ (.int .i64 (x:Int)))):=qz (by
      have hX:=HX.out;simp only [Bool.false_eq_true,if_false] at hX;refine ⟨(HD.out.b.trans (hb2.mono (by have:=HD.out.b.size; omega))).setCell hgB _,by rw [hX,List.length_append,HD.out.l]; rfl,upd h k x,hi2.put (by omega) x,fun t ht => ?_,fun t h1 h2 => ?_⟩
      ·
       rw [hX];by_cases htk:t = k
       ·
        subst htk;rw [upd_at,nth15_at HD.out.l]
       ·
        rw [upd_far _ _ htk,nth15_low (by rw [HD.out.l]; omega)];exact HLO.out t (by omega)
      ·
       rw [upd_far _ _ (by omega)]
       exact HHI.out t (by omega) h2)
     clear HCK hb2 HIB HLO HHI HX HD hi2;go_wp2_with fail;go_roundw
     case rel => exact ⟨k + 1,jj + 1,by go_num,by go_num,by omega,by omega,HD2⟩
     case measure => simp [intOf]; omega
   ·
    obtain rfl:jj = n:=by omega
    have i1:¬ (jj:Int) < (jj:Int):=by omega
    obtain ⟨h,hib,hlo,_⟩:=HD.out.r;have hfl:=HD.out.l;have htk:xs.take jj = xs:=List.take_of_length_le (by have:=HL.out; omega);rw [htk] at hlo hfl;obtain ⟨B',hcut,hB'⟩:=cutb15 g jj c k (by omega) hcap;obtain ⟨w3,hclr,hi3,hg3⟩:=clear15 hib (k:=k) (by omega) B' (c - k) hB'
    have HB3:Hid (Below B w w3):=qz (HD.out.b.grown hg3 (by have:=HD.out.b.size; omega) (fun r hr => by cases hr; exact hgB))
    have HRD:Hid (Rd w3 w3.heap.size (some ⟨g,0,none⟩) (xs.filter (fun x => !p x))):=qz (by
     have h5:=hi3;rw [<- hfl] at h5
     exact h5.rd (fun t ht => (hlo t (by omega)).symm))
    have HFL:=qz hfl;have i5:(0:Int)<=(k:Int):=by omega
    have i6:(k:Int)<=(c:Int):=by omega
    clear hib hlo hfl htk hi3 hg3 HD hB';go_wp2_with fail;go_ret;rw [HP.out];exact ⟨some ⟨g,0,none⟩,c,by rw [HFL.out]; rfl,HRD.out,fun _ => ⟨g,0,rfl,HGB.out⟩,HB3.out⟩
 ·
  have HF:Hid (xs.filter (fun x => !p x) = xs):=qz (by
   rw [List.filter_eq_self];intro x hx;obtain ⟨t,ht,rfl⟩:=List.getElem_of_mem hx;rw [<- nth_in ht,h2 t (by have:=HL.out; omega)]
   rfl)
  have HR:Hid (Rd w1 w1.heap.size A xs):=qz ((rd15_own HO.out HL.out).below hb1 (Nat.le_refl _) |>.more hb1.size);have HB1:=qz (hb1.mono hB);clear h2 hb1;go_wp2_with fail;go_ret;rw [HP.out,HF.out];exact ⟨A,c,by rw [HL.out]; rfl,HR.out,Fa17.of_own HO.out HL.out,HB1.out⟩
theorem order17 (v:Value) (S:Sv14) (os:List Nat) (w:World) (h:St14 w v S) (hd:Done13 (Ca15 S) S.C.length os) (hf:os.length = S.C.length) :
  Calls Tryz.prog 91 #[v] w (RetO17 w (ord15 S os)):=by
 obtain ⟨A0,A1,A2,A3,A4,n0,n1,n2,n3,n4,c0,c1,c2,c3,c4,sq,rfl,hs⟩:=h;have HP:Hid (RetO17 w (ord15 S os) = fun e w' => ∃ A c,e = .returned (.slice A (ord15 S os).length c)/\Rd w' w'.heap.size A (ord15 S os)/\Fa17 w.heap.size A (ord15 S os)/\Below w.heap.size w w'):=qz rfl
 have HCA:=qz (fun W (h:Bx14 w S A0 A1 A2 A3 A4 n0 n1 n2 n3 n4 c0 c1 c2 c3 c4 sq W) => coinArrows14 _ S W h.st);have hl0:=hs.l0;have hm0:=hs.m0;have HLA:Hid ((cArr14 S S.T.length).length<=1000000):=qz (by have:=cArr14_len S S.T.length; have:=hs.l1; have:=hs.m1; omega)
 have HOR:=qz (fun W Ad c (hr:Aq W W.heap.size Ad (cArr14 S S.T.length)) => dorder13_any (n0:Int) n0 (by unfold nn13; omega) Ad _ _ c os W rfl hr HLA.out (by rw [<- hl0]; exact hd));have hfn:decide (os.length = n0) = true:=by rw [<- hl0]; simpa using hf
 have HFN:=qz (show os.length = n0 by rw [<- hl0]; exact hf);have hx0:=Bx14.new hs;have hxn:=hx0.step (Below.refl _ _).drew;obtain ⟨W1,hW1⟩:=exq (w.alloc (.cells #[.slice A0 n0 c0,.slice A1 n1 c1,.slice A2 n2 c2,.slice A3 n3 c3,.slice A4 n4 c4,.int .i64 sq] 28));rw [hW1] at hx0 hxn;have HXN:=qz hxn;clear hs hx0 hxn hd hf hl0;go_enter Tryz.func91,Tryz.ntmps91
 obtain ⟨wn,hwn⟩:=exq W1.drew;rw [hwn] at HXN;go_wp2_with fail;refine wp_region_held_drew (S:=Bx14 w S A0 A1 A2 A3 A4 n0 n1 n2 n3 n4 c0 c1 c2 c3 c4 sq) (by kernel_rfl) (by rw [hwn]; exact HXN.out) (fun hHeld => ?_);rw [hwn] at hHeld ⊢;clear hwn;have HBS:=HXN;refine tkq 0 ?_;refine tk 1 (v:=?_) (fun W hS => ?_) ?_;rotate_left
 ·
  try dsimp only at hS
  have z0:=hS.x.cell 0;go_simp
  try with_reducible rfl
 try simp only [Act.put,pt1,pt2,pt3]
 refine tkq 2 ?_;refine tk 3 (v:=?_) (fun W hS => ?_) ?_;rotate_left
 ·
  try dsimp only at hS
  obtain ⟨z0,z1,z2,z3,z4,z5⟩:=ce6 hS.x;go_simp
  try with_reducible rfl
 try simp only [Act.put,pt1,pt2,pt3]
 refine rdy 4 (fun K hK => ?_);have HBS0:=HBS;go_simp;refine (HCA.out _ HBS0.out).mono ?_;rintro e wn ⟨Ac,cc,rfl,hqa,hb⟩;have HBS:=qz (HBS0.out.step hb);have HQA:=qz hqa;clear hqa;clear hb HBS0;refine koq hK HBS.out (fun hHeld=>?_);clear hK K;refine rdy 5 (fun K hK => ?_);have HBS0:=HBS;go_simp;refine (HOR.out _ Ac cc HQA.out).mono ?_
 rintro e wm ⟨vo,rfl,ho,_,hb⟩;obtain ⟨WO,hWO⟩:∃ W,W = wn:=⟨_,rfl⟩
 rw [<- hWO] at HBS0 hb ho;have HBS:=qz (HBS0.out.step hb);have HQO:=qz (ho HFN.out);have HB5:=qz hb;have HBO:=qz HBS0.out.b;have HX5:=HBS0;clear hb HBS0 HQA ho hWO;refine koq hK HBS.out (fun hHeld=>?_);clear hK K;refine tkq 6 ?_;refine tkq 7 ?_;refine tkq 8 ?_;refine rdy 9 (fun K hK => ?_);go_simp;refine koq hK HBS.out (fun hHeld=>?_);clear hK K
 refine rdy 10 (fun K hK => ?_);go_simp;refine koq hK HBS.out (fun hHeld=>?_);clear hK K;refine wpAnyH_done (by kernel_rfl) ?_ _;clear hHeld;obtain ⟨Ao,co,rfl,hown⟩:=HQO.out;have HOW:=qz hown;clear hown
 have HDL:=qz (del17 Ao os os.length co w.heap.size WO.heap.size wm rfl HOW.out (by have:=HFN.out; omega) HB5.out.size (fun (x:Nat) => !us14 usC S.C (x:Int)) (fun W hW x _ => ordc15 (x:Int) w.heap.size S A0 A1 A2 A3 A4 n0 n1 n2 n3 n4 c0 c1 c2 c3 c4 sq W _ (HX5.out.x.below (HB5.out.trans hW) HX5.out.x.lt) (HX5.out.s.step (HB5.out.trans hW)) rfl))
 clear HX5 HBS;go_wp2_with fail;refine HDL.out.mono ?_;rintro e w7 ⟨Af,cf,rfl,hrd,hfa,hb7⟩;have HB7:=qz (HBO.out.trans ((HB5.out.trans hb7).mono HBO.out.size));have HF:Hid (os.filter (fun (x:Nat) => !!us14 usC S.C (x:Int)) = ord15 S os):=qz (by simp [ord15]);rw [HF.out] at hrd hfa ⊢;have HFA:=qz (hfa.more HBO.out.size);clear hfa;have HRD:=qz hrd
 clear hrd hb7 HDL;go_wp2_with fail;go_ret;rw [HP.out];exact ⟨Af,cf,rfl,HRD.out,HFA.out,HB7.out⟩
theorem tickets17i (v:Value) (S:Sv14) (gc:Nat) (w:World) (h:St14 w v S) (p:Tk14->Bool)
  (hcl:∀ W,Below w.heap.size w W->∀ xu xc xa xk xt xo,Calls Tryz.prog 125 #[.agg #[.bool xu,.int .i64 xc,.int .i64 xa,.int .i64 xk,.int .i64 xt,.bool xo],.pointer (some ⟨gc,0,none⟩)] W fun e w' => e = .returned (.bool (p ⟨xu,xc,xa,xk,xt,xo⟩))/\Below W.heap.size W w') :
  Calls Tryz.prog 108 #[v,.func (.func 125) #[] #[.pointer (some ⟨gc,0,none⟩)]] w (RetO17 w (tks15 S p S.T.length)):=by
 obtain ⟨A0,A1,A2,A3,A4,n0,n1,n2,n3,n4,c0,c1,c2,c3,c4,sq,rfl,hs⟩:=h;have HP:Hid (RetO17 w (tks15 S p S.T.length) = fun e w' => ∃ A c,e = .returned (.slice A (tks15 S p n1).length c)/\Rd w' w'.heap.size A (tks15 S p n1)/\Fa17 w.heap.size A (tks15 S p n1)/\Below w.heap.size w w'):=qz (by rw [hs.l1]; rfl)
 have HX0:Hid (Ti15 w (w.heap.size + 1) S A0 A1 A2 A3 A4 n0 n1 n2 n3 n4 c0 c1 c2 c3 c4 sq none 0 0 (tks15 S p 0) (w.alloc (.cells #[.slice A0 n0 c0,.slice A1 n1 c1,.slice A2 n2 c2,.slice A3 n3 c3,.slice A4 n4 c4,.int .i64 sq] 28))):=qz (Ti15.start hs (Bx14.new hs) (by omega) (by simp));have HC:=qz hcl;have HL1:=qz hs.l1;have hnb:=hs.m1
 have t1:=HX0.out.b.x.cell 1;clear hs hcl;go_enter Tryz.func108,Tryz.ntmps108;go_wp2_with fail;clear t1;go_loopw [4,10] (fun v i wr => ∃ (k:Nat) (A:Option Addr) (m c:Nat),v = .slice A m c/\i = .int .i64 (k:Int)/\k<=n1/\Hid (Ti15 w (w.heap.size + 1) S A0 A1 A2 A3 A4 n0 n1 n2 n3 n4 c0 c1 c2 c3 c4 sq A m c (tks15 S p k) wr)) (fun _ i _ => n1 - (intOf i).toNat)
 case atStart => exact ⟨0,none,0,0,rfl,rfl,by omega,HX0⟩
 case round =>
  obtain ⟨k,A,m,c,rfl,rfl,hk,HW⟩:=hrel;by_cases hkn:k < n1
  ·
   obtain ⟨a,of,hA,hab,hq⟩:=Lq.at_ len14T (by omega) HW.out.b.s.r1 (show k < S.T.length by have:=HL1.out; omega);obtain ⟨x,hx⟩:=exq (gt14 S.T k);rw [hx] at hq;obtain ⟨xu,xc,xa,xk,xt,xo⟩:=x;have e0:wr.cell? ⟨a,of + k * 6,none⟩ = some (.bool xu):=hq 0 _ rfl;have e1:wr.cell? ⟨a,of + k * 6 + 1,none⟩ = some (.int .i64 xc):=hq 1 _ rfl
   have e2:wr.cell? ⟨a,of + k * 6 + 2,none⟩ = some (.int .i64 xa):=hq 2 _ rfl;have e3:wr.cell? ⟨a,of + k * 6 + 3,none⟩ = some (.int .i64 xk):=hq 3 _ rfl;have e4:wr.cell? ⟨a,of + k * 6 + 4,none⟩ = some (.int .i64 xt):=hq 4 _ rfl;have e5:wr.cell? ⟨a,of + k * 6 + 5,none⟩ = some (.bool xo):=hq 5 _ rfl;have i0:(0:Int)<=(k:Int):=by omega
   have i1:(k:Int) < (n1:Int):=by omega
   have HV:=qz (Ti15.step HW.out (b1' wr (.cells #[.bool xu,.int .i64 xc,.int .i64 xa,.int .i64 xk,.int .i64 xt,.bool xo] 55)));have hv:=Blk.new wr 55 #[.bool xu,.int .i64 xc,.int .i64 xa,.int .i64 xk,.int .i64 xt,.bool xo];obtain ⟨v0,v1,v2,v3,v4,v5⟩:=ce6 hv;have HVB:=qz hv
   have HNX:Hid (tks15 S p (k + 1) = tks15 S p k ++ if (xu && p ⟨xu,xc,xa,xk,xt,xo⟩) then [k] else []):=qz (by
    have h:=all11_next (fun j => (gt14 S.T j).u && p (gt14 S.T j)) k;rw [hx] at h
    exact h)
   obtain ⟨X,hX⟩:=exq (wr.alloc (.cells #[.bool xu,.int .i64 xc,.int .i64 xa,.int .i64 xk,.int .i64 xt,.bool xo] 55));rw [hX] at HV HVB v0 v1 v2 v3 v4 v5;have hmk:m<=k:=by rw [<- HW.out.l]; exact tks15_len S p k
   clear hv hq hx hab;subst hA
   cases xu with
   | false =>
    have HN:=qz (HV.out.congr (ys:=tks15 S p (k + 1)) (by rw [HNX.out]; simp));go_wp2_with fail;go_roundw
    case rel => exact ⟨k + 1,A,m,c,rfl,by go_num,by omega,HN⟩
    case measure => simp [intOf]; omega
   | true =>
    obtain ⟨bp,hbp⟩:=exq (p ⟨true,xc,xa,xk,xt,xo⟩);have hc:=HC.out X HV.out.b.b true xc xa xk xt xo;rw [hbp] at hc HNX;have HCK:=qz hc;clear hbp hc
    cases bp with
    | false =>
     go_wp2_with fail;refine HCK.out.mono ?_;rintro e w2 ⟨rfl,hb2⟩;have HN:=qz ((HV.out.step hb2).congr (ys:=tks15 S p (k + 1)) (by rw [HNX.out]; simp));clear HCK hb2;go_wp2_with fail;go_roundw
     case rel => exact ⟨k + 1,A,m,c,rfl,by go_num,by omega,HN⟩
     case measure => simp [intOf]; omega
    | true =>
     go_wp2_with fail;refine HCK.out.mono ?_;rintro e w2 ⟨rfl,hb2⟩;obtain ⟨Az,cz,W2,hrun,har,_⟩:=(HV.out.step hb2).push k (by omega);have HRUN:=qz hrun;have HAR:=qz (har.congr (ys:=tks15 S p (k + 1)) (by rw [HNX.out]; simp));clear HCK hb2 hrun har
     go_wp2_with (at_builtin; go_loud (refine wpList_append_14 _ rfl (.tmp 22) (.tmp 24) 26 rfl _ _ _ _ rfl rfl HRUN.out ?_));go_roundw
     case rel => exact ⟨k + 1,Az,m + 1,cz,rfl,by go_num,by omega,HAR⟩
     case measure => simp [intOf]; omega
  ·
   obtain rfl:k = n1:=by omega
   have HL:=qz HW.out.l;have h1:¬ (k:Int) < (k:Int):=by omega
   go_wp2_with fail;go_ret;rw [HP.out];exact ⟨A,c,by rw [HL.out]; rfl,HW.out.rd,(Fa17.of_own HW.out.o HW.out.l).more (by omega),HW.out.b.b⟩
theorem issued17 (v:Value) (S:Sv14) (c:Int) (w:World) (h:St14 w v S) :
  Calls Tryz.prog 106 #[v,.int .i64 c] w (RetO17 w (isd15 S c)):=by
 obtain ⟨A0,A1,A2,A3,A4,n0,n1,n2,n3,n4,c0,c1,c2,c3,c4,sq,rfl,hs⟩:=h;have hx0:=Bx14.new hs;have hxn:=hx0.step (Below.refl _ _).drew;obtain ⟨W1,hW1⟩:=exq (w.alloc (.cells #[.slice A0 n0 c0,.slice A1 n1 c1,.slice A2 n2 c2,.slice A3 n3 c3,.slice A4 n4 c4,.int .i64 sq] 28));rw [hW1] at hx0 hxn;obtain ⟨bc,hbc⟩:=exq (us14 usC S.C c)
 have hb2:=b1' W1 (.cells #[.int .i64 c] 3);have hk2:=Blk.new W1 3 #[.int .i64 c];have hx2:=hx0.step hb2;have hz1:W1.heap.size = w.heap.size + 1:=by rw [<- hW1]; simp
 rw [hz1] at hk2;obtain ⟨W2,hW2⟩:=exq (W1.alloc (.cells #[.int .i64 c] 3));rw [hW2] at hb2 hk2 hx2;have HCC:=qz (coin14 _ S c bc W2 hx2.st hbc);have HX2:=qz hx2;have HK2:=qz hk2;obtain ⟨x0,x1,x2,x3,x4,x5⟩:=ce6 hx2.x;have k0:=hk2.cell 0
 have HP:Hid (RetO17 w (isd15 S c) = fun e w' => ∃ A c2,e = .returned (.slice A (isd15 S c).length c2)/\Rd w' w'.heap.size A (isd15 S c)/\Fa17 w.heap.size A (isd15 S c)/\Below w.heap.size w w'):=qz rfl;have HE:Hid (isd15 S c = if bc then tks15 S (isw15 c) S.T.length else []):=qz (by rw [isd15,hbc]);clear hs hx0 hxn hbc hb2 hk2 hx2
 go_enter Tryz.func106,Tryz.ntmps106;go_wp2_with fail;refine HCC.out.mono ?_;rintro e w3 ⟨rfl,hb3⟩;have HX3:=qz (HX2.out.step hb3);have hk3:=HK2.out.below hb3 HK2.out.lt;have HK3:=qz hk3;clear HCC hb3
 cases bc with
 | false =>
  go_wp2_with fail;go_ret;rw [HP.out,HE.out]
  exact ⟨none,0,rfl,fun h => absurd rfl h,fun h => absurd rfl h,HX3.out.b⟩
 | true =>
  obtain ⟨y0,y1,y2,y3,y4,y5⟩:=ce6 HX3.out.x;have HT:=qz (tickets17i _ S (w.heap.size + 1) w3 HX3.out.st (isw15 c) (fun W hW xu xc xa xk xt xo => isc15 xu xc xa xk xt xo _ c W ((HK3.out.below hW HK3.out.lt).cell 0)));go_wp2_with fail;refine HT.out.mono ?_;rintro e w4 ⟨A,c2,rfl,hr4,hfa4,hb4⟩;have HFA:=qz (hfa4.more HX3.out.b.size);have HR4:=qz hr4
  have HB4:=qz (HX3.out.b.trans (hb4.mono HX3.out.b.size));clear HT hr4 hfa4 hb4;go_wp2_with fail;go_ret;rw [HP.out,HE.out];exact ⟨A,c2,rfl,HR4.out,HFA.out,HB4.out⟩
def benc17 (xs:List Nat) (k:Nat):Array Value:=#[.int .i64 ((xs.length - 1 - k:Nat):Int),.int .i64 ((nth xs (xs.length - 1 - k):Nat):Int)]
def bkeep17 (Bs:Nat) (A:Option Addr) (xs:List Nat) (_:Nat) (p:Addr):Prop:=p.block = Bs\/xs≠[]/\∃ q,A = some q/\p.block = q.block
theorem back17_goes (F:Fence) (n:Nat) (hf:F.fn 130) (hro:F.round = none) (hn:1<=n) (Bs N c:Nat) (A:Option Addr) (xs:List Nat) (w:World) (hl:xs.length = N) (hi:Rd w w.heap.size A xs) (hN:N<=1000000)
  (hb:w.cell? ⟨Bs,0,none⟩ = some (.slice A N c)) :
  Goes F n Tryz.prog 130 #[.pointer (some ⟨Bs,0,none⟩)] (benc17 xs) (bkeep17 Bs A xs) N w:=fun l J Jx W hW _ _ hY h0 => by
 have hBs:=World.block_lt_of_cell? w _ hb;have hb1:=(hW.cell hBs).trans hb;have HI1:=qz (hi.below hW (Nat.le_refl _));have HLX:=qz hl;have HWS:=qz hW.size;clear hb hi hl;refine callsIn_of_wp Tryz.func130 rfl hf ?_ hro
 simp only [Tryz.ntmps130,List.size_toArray,List.length_cons,List.length_nil,Nat.reduceAdd,Nat.reduceSub,Array.replicate_succ,Array.replicate_zero,List.push_toArray,List.append_toArray,List.nil_append,List.cons_append];gi_wp2
 gi_loopw [3] (fun i wr => ∃ (m:Nat) (j:Int),i = .int .i64 j/\j + 1 = (m:Int)/\m<=N/\J (N - m) wr/\wr.cell? ⟨Bs,0,none⟩ = some (.slice A N c)/\Hid (Rd wr w.heap.size A xs))
  (fun i _ => (intOf i + 1).toNat)
 case atStart =>
  exact ⟨N,_,rfl,by omega,Nat.le_refl _,by rw [Nat.sub_self]; exact h0,hb1,HI1⟩
 case round =>
  obtain ⟨m,j,rfl,hj,hm,hJ,hbx,HC⟩:=hrel;by_cases hpos:0 < m
  ·
   obtain ⟨q,rfl⟩:∃ q,m = q + 1:=⟨m - 1,by omega⟩
   obtain rfl:j = (q:Int):=by omega
   obtain ⟨gx,ox,hA,hlt,hcx⟩:=HC.out.at_ (show q < xs.length by have:=HLX.out; omega);have HAX:=qz hA;rw [hA] at hbx;have hq0:(0:Int)<=(q:Int):=by omega
   have hq1:(q:Int) < (N:Int):=by omega
   obtain ⟨fn,tmps,assign,body,hy,hR⟩:=hY (N - (q + 1)) wr (by omega) hJ;have he:N - 1 - (N - (q + 1)) = q:=by omega
   simp only [benc17,HLX.out,he] at hy;obtain ⟨xq,hxq⟩:=exq (nth xs q);rw [hxq] at hcx hy;clear hxq hA;clear he;gi_wp2;refine hR.mono ?_;rintro e W3 (⟨rfl,hJ3,hk3⟩ | ⟨rfl,hJx3⟩)
   ·
    have HS:Hid (Same (bkeep17 Bs A xs (N - (q + 1))) wr W3):=qz hk3;have HJ:=qz hJ3;clear hk3 hJ3 hJ;gi_wp2;go_roundw
    case rel =>
     exact ⟨q,_,rfl,by omega,by omega,by have:=HJ.out; rwa [show N - (q + 1) + 1 = N - q by omega] at this,by rw [HAX.out]; exact HS.out.cell _ _ (.inl rfl) hbx,qz (fun hx => by
      obtain ⟨b,o,h1,h2,h3⟩:=HC.out hx
      exact ⟨b,o,h1,h2,fun t ht => HS.out.cell _ _ (.inr ⟨hx,_,h1,rfl⟩) (h3 t ht)⟩)⟩
    case measure => first | (simp [intOf]; done) | (simp [intOf]; omega)
   ·
    gi_wp2;refine bodyPost_ret (results_none rfl _ _ _) rfl ?_;exact ⟨⟨_,rfl⟩,.inr ⟨_,by omega,hJx3⟩⟩
  ·
   obtain rfl:m = 0:=by omega
   obtain rfl:j = -1:=by omega
   have HJ:Hid (J N wr):=qz (by simpa using hJ);clear hJ;gi_wp2
   go_end0
   exact ⟨⟨_,rfl⟩,.inl HJ.out⟩
theorem bk17_trans {L g1:Nat} {r:Option Nat} {w w1 w':World} (h:Bk13 L g1 r w w1) (h':Bk13 L g1 r w1 w'):Bk13 L g1 r w w' :=
 ⟨h.below.trans h'.below,Nat.le_trans h.size h'.size,fun b hb h1 h2 => (h'.keep b (Nat.lt_of_lt_of_le hb h.size) h1 h2).trans (h.keep b hb h1 h2)⟩
theorem bk17_below {L g1:Nat} {r:Option Nat} {w w':World} (hL:L<=w.heap.size) (h:Below w.heap.size w w'):Bk13 L g1 r w w':=⟨h.mono hL,h.size,fun b hb _ _ => h.block b hb⟩
theorem bk17_set {L g1:Nat} {r:Option Nat} {w:World} {p:Addr} (hp:L<=p.block) (h:p.block = g1\/some p.block = r) (u:Value):Bk13 L g1 r w (w.setCell p u) :=
 ⟨(
  Below.refl _ _).setCell hp u,by simp [World.setCell],fun b _ h1 h2 => Below.heap_setCell w p u b (fun e => by
  subst e;rcases h with h | h
  · exact h1 h
  · exact h2 h)⟩
theorem bk17_rd {L g1:Nat} {r:Option Nat} {w w':World} (h:Bk13 L g1 r w w') {A:Option Addr} {xs:List Nat} (hr:Rd w w.heap.size A xs) (ha:∀ q,xs≠[]->A = some q->q.block≠g1/\some q.block≠r):Rd w' w'.heap.size A xs:=fun hx => by
 obtain ⟨b,o,h1,h2,h3⟩:=hr hx;have h4:=ha _ hx h1;exact ⟨b,o,h1,Nat.lt_of_lt_of_le h2 h.size,fun k hk => (World.cell?_of_block (h.keep b h2 h4.1 h4.2)).trans (h3 k hk)⟩
theorem bk17_others {L g1 g2 n1 n2:Nat} {M:Nat->Bool} {Am:Nat->Nat} {w w':World} (h:Bk13 L g1 (some g2) w w') (h1:Bb13 w g1 n1 M) (h2:Ib13 w g2 n2 Am):KeepsOthers w w' :=
 ⟨h.size,fun k o hk ho => by
  have hlt:=(Array.getElem?_eq_some_iff.1 hk).1;refine (h.keep k hlt (fun e => ?_) (fun e => ?_)).trans hk
  ·
   rw [e] at hk;obtain ⟨cs,hb,_⟩:=h1;rw [show w.heap[g1]? = _ from hb] at hk;cases hk;cases ho
  ·
   injection e with e
   rw [e] at hk;obtain ⟨cs,hb,_⟩:=h2;rw [show w.heap[g2]? = _ from hb] at hk;cases hk
   cases ho⟩
theorem Bb13.far17 {w:World} {g n:Nat} {m:Nat->Bool} (q:Bb13 w g n m) {p:Addr} (hp:g≠p.block) (u:Value):Bb13 (w.setCell p u) g n m:=by
 obtain ⟨cs,h1,h2⟩:=q;exact ⟨cs,h1.far hp u,h2⟩
theorem Bb13.lt17 {w:World} {g n:Nat} {m:Nat->Bool} (q:Bb13 w g n m):g < w.heap.size:=by
 obtain ⟨cs,h1,h2⟩:=q;exact h1.lt
end
end Go.Proofs.YtkdmnlihpebbkaaGreat
