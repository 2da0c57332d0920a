import Derived.Test.YtkdmnlihpebbkaaGreatCT19
set_option linter.all false
set_option maxHeartbeats 8000000
namespace Go.Proofs.YtkdmnlihpebbkaaGreat
section
open Go.RowKit
set_option maxRecDepth 100000
structure By16 (w:World) (S:Sv14) (A0 A1 A2 A3 A4:Option Addr) (n0 n1 n2 n3 n4 c0 c1 c2 c3 c4:Nat) (sq:Int) (W:World):Prop where
 b:Bx14 w S A0 A1 A2 A3 A4 n0 n1 n2 n3 n4 c0 c1 c2 c3 c4 sq W
 s:SA14 w S A0 A1 A2 A3 A4 n0 n1 n2 n3 n4 c0 c1 c2 c3 c4 sq
theorem By16.step {w:World} {S:Sv14} {A0 A1 A2 A3 A4:Option Addr} {n0 n1 n2 n3 n4 c0 c1 c2 c3 c4:Nat} {sq:Int} {W W':World} (h:By16 w S A0 A1 A2 A3 A4 n0 n1 n2 n3 n4 c0 c1 c2 c3 c4 sq W) (hb:Below W.heap.size W W'):By16 w S A0 A1 A2 A3 A4 n0 n1 n2 n3 n4 c0 c1 c2 c3 c4 sq W':=⟨h.b.step hb,h.s⟩
theorem By16.low {w:World} {S:Sv14} {A0 A1 A2 A3 A4:Option Addr} {n0 n1 n2 n3 n4 c0 c1 c2 c3 c4:Nat} {sq:Int} {W W':World} (h:By16 w S A0 A1 A2 A3 A4 n0 n1 n2 n3 n4 c0 c1 c2 c3 c4 sq W) (hb:Below (w.heap.size + 1) W W'):By16 w S A0 A1 A2 A3 A4 n0 n1 n2 n3 n4 c0 c1 c2 c3 c4 sq W' :=
 ⟨⟨h.b.b.trans (hb.mono (by omega)),h.b.x.below hb (by omega),h.s.step (h.b.b.trans (hb.mono (by omega)))⟩,h.s⟩
theorem end16 (v:Value) (S:Sv14) (i:Int) (l:List Nat) (w:World) (h:St14 w v S) (hf:Fine14 S) (hl:Tl16 S i l) :
  Calls Tryz.prog 153 #[v,.int .i64 i] w fun e w' => e = .returned (.int .i64 (en16 l))/\Below w.heap.size w w':=by
 obtain ⟨A0,A1,A2,A3,A4,n0,n1,n2,n3,n4,c0,c1,c2,c3,c4,sq,rfl,hs⟩:=h;have hx0:=Bx14.new hs;have hxn:=hx0.step (Below.refl _ _).drew;obtain ⟨W1,hW1⟩:=exq (w.alloc (.cells #[.slice A0 n0 c0,.slice A1 n1 c1,.slice A2 n2 c2,.slice A3 n3 c3,.slice A4 n4 c4,.int .i64 sq] 28));rw [hW1] at hx0 hxn;have HX0:=qz hx0;obtain ⟨p0,p1,p2,p3,p4,p5⟩:=ce6 hx0.x
 have HLN:Hid (l.length<=1000000):=qz (by have:=hl.len hf; have:=hs.l2; have:=hs.m2; omega);have HT:=qz (fun W h => tail16 (.agg #[.slice A0 n0 c0,.slice A1 n1 c1,.slice A2 n2 c2,.slice A3 n3 c3,.slice A4 n4 c4,.int .i64 sq]) S i l W h hf hl);clear hs hx0 hxn hf hl;go_enter Tryz.func153,Tryz.ntmps153;go_wp2_with fail;refine (HT.out _ HX0.out.st).mono ?_
 rintro e u1 ⟨A,c,rfl,hr,hb1⟩;have HB1:=qz (HX0.out.b.trans (hb1.mono HX0.out.b.size));clear hb1 HT HX0 p0 p1 p2 p3 p4 p5 hW1;by_cases hl0:l = []
 ·
  subst hl0;have HE:Hid (en16 [] = -1):=qz rfl;clear hr;go_wp2_with fail;go_ret;exact ⟨by rw [HE.out]; rfl,HB1.out⟩
 ·
  obtain ⟨d,hd⟩:∃ d,l.length = d + 1:=⟨l.length - 1,by have:=List.length_pos_iff.2 hl0; omega⟩
  obtain ⟨a,of,hA,hab,hq⟩:=hr.at_ (show d < l.length by omega);subst hA;have HE:Hid (en16 l = ((nth l d:Nat):Int)):=qz (by rw [en16,if_neg hl0,lst16,hd]; rfl);have hnz:(((d + 1:Nat):Int) == 0) = false:=by simp; omega
  have hdm:d + 1<=1000000:=by have:=HLN.out; omega
  rw [hd];clear hr hab hd hl0;have i0:(0:Int)<=(d:Int):=by omega
  have i1:(d:Int) < ((d + 1:Nat):Int):=by omega
  have hsb:((d + 1:Nat):Int) - 1 = (d:Int):=by omega
  go_wp2_with fail;go_ret;exact ⟨by rw [HE.out]; rfl,HB1.out⟩
theorem lives16 (v:Value) (S:Sv14) (i:Int) (l:List Nat) (w:World) (h:St14 w v S) (hf:Fine14 S) (hl:Tl16 S i l) :
  Calls Tryz.prog 146 #[v,.int .i64 i] w fun e w' => e = .returned (.bool (lv16 S (en16 l)))/\Below w.heap.size w w':=by
 obtain ⟨A0,A1,A2,A3,A4,n0,n1,n2,n3,n4,c0,c1,c2,c3,c4,sq,rfl,hs⟩:=h;have hx0:By16 w S A0 A1 A2 A3 A4 n0 n1 n2 n3 n4 c0 c1 c2 c3 c4 sq _:=⟨Bx14.new hs,hs⟩
 have hxn:=hx0.step (Below.refl _ _).drew;obtain ⟨W1,hW1⟩:=exq (w.alloc (.cells #[.slice A0 n0 c0,.slice A1 n1 c1,.slice A2 n2 c2,.slice A3 n3 c3,.slice A4 n4 c4,.int .i64 sq] 28));rw [hW1] at hx0 hxn;obtain ⟨x,hx⟩:=exq (at14 usH S.H (en16 l));obtain ⟨xz,xf,xc,xq,xu⟩:=x;obtain ⟨b,hb⟩:=exq (us14 usH S.H (en16 l))
 have HLV:Hid (lv16 S (en16 l) = ((xz == 2) || (xz == 3))):=qz (by rw [lv16,hx]);have HE:=qz (fun W h => end16 (.agg #[.slice A0 n0 c0,.slice A1 n1 c1,.slice A2 n2 c2,.slice A3 n3 c3,.slice A4 n4 c4,.int .i64 sq]) S i l W h hf hl)
 have HT:=qz (fun W h => thread14 (.agg #[.slice A0 n0 c0,.slice A1 n1 c1,.slice A2 n2 c2,.slice A3 n3 c3,.slice A4 n4 c4,.int .i64 sq]) S (en16 l) xz xf xc xq xu b W h hb hx);have HXN:=qz hxn;clear hs hx0 hxn hf hl hx hb;go_enter Tryz.func146,Tryz.ntmps146;obtain ⟨wn,hwn⟩:=exq W1.drew;rw [hwn] at HXN;go_wp2_with fail
 refine wp_region_held_drew (S:=By16 w S A0 A1 A2 A3 A4 n0 n1 n2 n3 n4 c0 c1 c2 c3 c4 sq) (by kernel_rfl) (by rw [hwn]; exact HXN.out) (fun hHeld => ?_);rw [hwn] at hHeld ⊢;clear hwn;have HBS:=HXN;refine tk 0 (v:=?_) (fun W hS => ?_) ?_;rotate_left
 ·
  try dsimp only at hS
  obtain ⟨z0,z1,z2,z3,z4,z5⟩:=ce6 hS.b.x;go_simp
  try with_reducible rfl
 try simp only [Act.put,pt1,pt2,pt3]
 refine tk 1 (v:=?_) (fun W hS => ?_) ?_;rotate_left
 ·
  try dsimp only at hS
  obtain ⟨z0,z1,z2,z3,z4,z5⟩:=ce6 hS.b.x;go_simp
  try with_reducible rfl
 try simp only [Act.put,pt1,pt2,pt3]
 refine tkq 2 ?_;refine wpAnyH_ready (rs:=[3,8]) (by kernel_rfl) (by simp) (AllReadyH.cons (op_of rfl) (fun K hK => ?_) (AllReadyH.cons (op_of rfl) (fun K hK => ?_) AllReadyH.nil))
 ·
  skip;have HBS0:=HBS;go_simp;refine (HE.out _ HBS0.out.b.st).mono ?_;rintro e wo ⟨rfl,hb⟩;have HBS:=qz (HBS0.out.step hb);clear hb HBS0;obtain ⟨wn,hwn⟩:∃ W,W = wo:=⟨_,rfl⟩
  subst hwn;refine koq hK HBS.out (fun hHeld=>?_);clear hK K;refine wpAnyH_ready (rs:=[4,8]) (by kernel_rfl) (by simp) (AllReadyH.cons (op_of rfl) (fun K hK => ?_) (AllReadyH.cons (op_of rfl) (fun K hK => ?_) AllReadyH.nil))
  ·
   skip;have HBS0:=HBS;go_simp;refine (HT.out _ HBS0.out.b.st).mono ?_;rintro e wo ⟨rfl,hb⟩;have HBS:=qz (HBS0.out.step hb);clear hb HBS0;obtain ⟨wn,hwn⟩:∃ W,W = wo:=⟨_,rfl⟩
   subst hwn;refine koq hK HBS.out (fun hHeld=>?_);clear hK K;refine tkq 5 ?_;refine tkq 6 ?_;refine tkq 7 ?_;refine rdy 8 (fun K hK => ?_);have HBS0:=HBS;go_simp;have HBS:=qz (HBS0.out.step (b1' wn (.cells #[.int .i64 0,.int .i64 0,.int .i64 0,.int .i64 0,.int .i64 0] 60)))
   have HK0:=qz (Blk.new wn 60 #[.int .i64 0,.int .i64 0,.int .i64 0,.int .i64 0,.int .i64 0]);have hgl:w.heap.size < wn.heap.size:=HBS0.out.b.x.lt;obtain ⟨g,hg⟩:=exq wn.heap.size;obtain ⟨wm,hwm⟩:=exq (wn.alloc (.cells #[.int .i64 0,.int .i64 0,.int .i64 0,.int .i64 0,.int .i64 0] 60));rw [hg] at HK0 hgl;rw [hwm] at HBS HK0;rw [hg,hwm];clear hg hwm HBS0
   obtain ⟨wn,hwn⟩:∃ W,W = wm:=⟨_,rfl⟩
   subst hwn;refine koq hK HBS.out (fun hHeld=>?_);clear hK K;refine rdy 9 (fun K hK => ?_);obtain ⟨k0,k1,k2,k3,k4⟩:=ce5 HK0.out;have f0:=HK0.out.frozen 0;have f1:=HK0.out.frozen 1;have f2:=HK0.out.frozen 2;have f3:=HK0.out.frozen 3;have f4:=HK0.out.frozen 4;go_simp
   obtain ⟨wm,hwm⟩:=exq (((((wn.setCell ⟨g,0,none⟩ (.int .i64 xz)).setCell ⟨g,1,none⟩ (.int .i64 xf)).setCell ⟨g,2,none⟩ (.int .i64 xc)).setCell ⟨g,3,none⟩ (.int .i64 xq)).setCell ⟨g,4,none⟩ (.int .i64 xu))
   have hk2:Blk wm g 60 #[.int .i64 xz,.int .i64 xf,.int .i64 xc,.int .i64 xq,.int .i64 xu]:=by
    rw [<- hwm];have h:=((((HK0.out.set_ 0 (.int .i64 xz)).set_ 1 (.int .i64 xf)).set_ 2 (.int .i64 xc)).set_ 3 (.int .i64 xq)).set_ 4 (.int .i64 xu);simpa using h
   have hl5:Below (w.heap.size + 1) wn wm:=by
    rw [<- hwm];exact (((((Below.refl _ _).setCell (p:=⟨g,0,none⟩) hgl _).setCell (p:=⟨g,1,none⟩) hgl _).setCell (p:=⟨g,2,none⟩) hgl _).setCell (p:=⟨g,3,none⟩) hgl _).setCell (p:=⟨g,4,none⟩) hgl _
   rw [hwm];have HBS0:=HBS;have HBS:=qz (HBS0.out.low hl5);have HK1:=qz hk2;clear hwm hk2 hl5 HK0 HBS0 k0 f0 k1 f1 k2 f2 k3 f3 k4 f4;obtain ⟨wn,hwn⟩:∃ W,W = wm:=⟨_,rfl⟩
   subst hwn;refine koq hK HBS.out (fun hHeld=>?_);clear hK K;refine rdy 10 (fun K hK => ?_);go_simp;refine koq hK HBS.out (fun hHeld=>?_);clear hK K;refine wpAnyH_done (by kernel_rfl) ?_ _;clear hHeld;have c0:=HK1.out.cell 0;have HB:=qz HBS.out.b.b;clear HK1 HBS HXN;by_cases z2:xz = 2
   ·
    subst z2;have HE:Hid (lv16 S (en16 l) = true):=qz (by rw [HLV.out]; rfl);go_wp2_with fail;go_ret;exact ⟨by rw [HE.out]; rfl,HB.out⟩
   ·
    have hz2:(xz == 2) = false:=by simp [z2]
    have HE:Hid (lv16 S (en16 l) = (xz == 3)):=qz (by rw [HLV.out,hz2]; rfl);go_wp2_with fail;go_ret;exact ⟨by rw [HE.out]; rfl,HB.out⟩
  ·
   skip;have HBS0:=HBS;go_simp;have HBS:=qz (HBS0.out.step (b1' wn (.cells #[.int .i64 0,.int .i64 0,.int .i64 0,.int .i64 0,.int .i64 0] 60)));have HK0:=qz (Blk.new wn 60 #[.int .i64 0,.int .i64 0,.int .i64 0,.int .i64 0,.int .i64 0]);have hgl:w.heap.size < wn.heap.size:=HBS0.out.b.x.lt;obtain ⟨g,hg⟩:=exq wn.heap.size
   obtain ⟨wm,hwm⟩:=exq (wn.alloc (.cells #[.int .i64 0,.int .i64 0,.int .i64 0,.int .i64 0,.int .i64 0] 60));rw [hg] at HK0 hgl;rw [hwm] at HBS HK0;rw [hg,hwm];clear hg hwm HBS0;obtain ⟨wn,hwn⟩:∃ W,W = wm:=⟨_,rfl⟩
   subst hwn;refine koq hK HBS.out (fun hHeld=>?_);clear hK K;refine rdy 4 (fun K hK => ?_);have HBS0:=HBS;go_simp;refine (HT.out _ HBS0.out.b.st).mono ?_;rintro e wo ⟨rfl,hb⟩;have HBS:=qz (HBS0.out.step hb);have HK0:=qz (HK0.out.below hb HK0.out.lt);clear hb HBS0;obtain ⟨wn,hwn⟩:∃ W,W = wo:=⟨_,rfl⟩
   subst hwn;refine koq hK HBS.out (fun hHeld=>?_);clear hK K;refine tkq 5 ?_;refine tkq 6 ?_;refine tkq 7 ?_;refine rdy 9 (fun K hK => ?_);obtain ⟨k0,k1,k2,k3,k4⟩:=ce5 HK0.out;have f0:=HK0.out.frozen 0;have f1:=HK0.out.frozen 1;have f2:=HK0.out.frozen 2;have f3:=HK0.out.frozen 3;have f4:=HK0.out.frozen 4;go_simp
   obtain ⟨wm,hwm⟩:=exq (((((wn.setCell ⟨g,0,none⟩ (.int .i64 xz)).setCell ⟨g,1,none⟩ (.int .i64 xf)).setCell ⟨g,2,none⟩ (.int .i64 xc)).setCell ⟨g,3,none⟩ (.int .i64 xq)).setCell ⟨g,4,none⟩ (.int .i64 xu))
   have hk2:Blk wm g 60 #[.int .i64 xz,.int .i64 xf,.int .i64 xc,.int .i64 xq,.int .i64 xu]:=by
    rw [<- hwm];have h:=((((HK0.out.set_ 0 (.int .i64 xz)).set_ 1 (.int .i64 xf)).set_ 2 (.int .i64 xc)).set_ 3 (.int .i64 xq)).set_ 4 (.int .i64 xu);simpa using h
   have hl5:Below (w.heap.size + 1) wn wm:=by
    rw [<- hwm];exact (((((Below.refl _ _).setCell (p:=⟨g,0,none⟩) hgl _).setCell (p:=⟨g,1,none⟩) hgl _).setCell (p:=⟨g,2,none⟩) hgl _).setCell (p:=⟨g,3,none⟩) hgl _).setCell (p:=⟨g,4,none⟩) hgl _
   rw [hwm];have HBS0:=HBS;have HBS:=qz (HBS0.out.low hl5);have HK1:=qz hk2;clear hwm hk2 hl5 HK0 HBS0 k0 f0 k1 f1 k2 f2 k3 f3 k4 f4;obtain ⟨wn,hwn⟩:∃ W,W = wm:=⟨_,rfl⟩
   subst hwn;refine koq hK HBS.out (fun hHeld=>?_);clear hK K;refine rdy 10 (fun K hK => ?_);go_simp;refine koq hK HBS.out (fun hHeld=>?_);clear hK K;refine wpAnyH_done (by kernel_rfl) ?_ _;clear hHeld;have c0:=HK1.out.cell 0;have HB:=qz HBS.out.b.b;clear HK1 HBS HXN;by_cases z2:xz = 2
   ·
    subst z2;have HE:Hid (lv16 S (en16 l) = true):=qz (by rw [HLV.out]; rfl);go_wp2_with fail;go_ret;exact ⟨by rw [HE.out]; rfl,HB.out⟩
   ·
    have hz2:(xz == 2) = false:=by simp [z2]
    have HE:Hid (lv16 S (en16 l) = (xz == 3)):=qz (by rw [HLV.out,hz2]; rfl);go_wp2_with fail;go_ret;exact ⟨by rw [HE.out]; rfl,HB.out⟩
 ·
  skip;have HBS0:=HBS;go_simp;have HBS:=qz (HBS0.out.step (b1' wn (.cells #[.int .i64 0,.int .i64 0,.int .i64 0,.int .i64 0,.int .i64 0] 60)));have HK0:=qz (Blk.new wn 60 #[.int .i64 0,.int .i64 0,.int .i64 0,.int .i64 0,.int .i64 0]);have hgl:w.heap.size < wn.heap.size:=HBS0.out.b.x.lt;obtain ⟨g,hg⟩:=exq wn.heap.size
  obtain ⟨wm,hwm⟩:=exq (wn.alloc (.cells #[.int .i64 0,.int .i64 0,.int .i64 0,.int .i64 0,.int .i64 0] 60));rw [hg] at HK0 hgl;rw [hwm] at HBS HK0;rw [hg,hwm];clear hg hwm HBS0;obtain ⟨wn,hwn⟩:∃ W,W = wm:=⟨_,rfl⟩
  subst hwn;refine koq hK HBS.out (fun hHeld=>?_);clear hK K;refine rdy 3 (fun K hK => ?_);have HBS0:=HBS;go_simp;refine (HE.out _ HBS0.out.b.st).mono ?_;rintro e wo ⟨rfl,hb⟩;have HBS:=qz (HBS0.out.step hb);have HK0:=qz (HK0.out.below hb HK0.out.lt);clear hb HBS0;obtain ⟨wn,hwn⟩:∃ W,W = wo:=⟨_,rfl⟩
  subst hwn;refine koq hK HBS.out (fun hHeld=>?_);clear hK K;refine rdy 4 (fun K hK => ?_);have HBS0:=HBS;go_simp;refine (HT.out _ HBS0.out.b.st).mono ?_;rintro e wo ⟨rfl,hb⟩;have HBS:=qz (HBS0.out.step hb);have HK0:=qz (HK0.out.below hb HK0.out.lt);clear hb HBS0;obtain ⟨wn,hwn⟩:∃ W,W = wo:=⟨_,rfl⟩
  subst hwn;refine koq hK HBS.out (fun hHeld=>?_);clear hK K;refine tkq 5 ?_;refine tkq 6 ?_;refine tkq 7 ?_;refine rdy 9 (fun K hK => ?_);obtain ⟨k0,k1,k2,k3,k4⟩:=ce5 HK0.out;have f0:=HK0.out.frozen 0;have f1:=HK0.out.frozen 1;have f2:=HK0.out.frozen 2;have f3:=HK0.out.frozen 3;have f4:=HK0.out.frozen 4;go_simp
  obtain ⟨wm,hwm⟩:=exq (((((wn.setCell ⟨g,0,none⟩ (.int .i64 xz)).setCell ⟨g,1,none⟩ (.int .i64 xf)).setCell ⟨g,2,none⟩ (.int .i64 xc)).setCell ⟨g,3,none⟩ (.int .i64 xq)).setCell ⟨g,4,none⟩ (.int .i64 xu))
  have hk2:Blk wm g 60 #[.int .i64 xz,.int .i64 xf,.int .i64 xc,.int .i64 xq,.int .i64 xu]:=by
   rw [<- hwm];have h:=((((HK0.out.set_ 0 (.int .i64 xz)).set_ 1 (.int .i64 xf)).set_ 2 (.int .i64 xc)).set_ 3 (.int .i64 xq)).set_ 4 (.int .i64 xu);simpa using h
  have hl5:Below (w.heap.size + 1) wn wm:=by
   rw [<- hwm];exact (((((Below.refl _ _).setCell (p:=⟨g,0,none⟩) hgl _).setCell (p:=⟨g,1,none⟩) hgl _).setCell (p:=⟨g,2,none⟩) hgl _).setCell (p:=⟨g,3,none⟩) hgl _).setCell (p:=⟨g,4,none⟩) hgl _
  rw [hwm];have HBS0:=HBS;have HBS:=qz (HBS0.out.low hl5);have HK1:=qz hk2;clear hwm hk2 hl5 HK0 HBS0 k0 f0 k1 f1 k2 f2 k3 f3 k4 f4;obtain ⟨wn,hwn⟩:∃ W,W = wm:=⟨_,rfl⟩
  subst hwn;refine koq hK HBS.out (fun hHeld=>?_);clear hK K;refine rdy 10 (fun K hK => ?_);go_simp;refine koq hK HBS.out (fun hHeld=>?_);clear hK K;refine wpAnyH_done (by kernel_rfl) ?_ _;clear hHeld;have c0:=HK1.out.cell 0;have HB:=qz HBS.out.b.b;clear HK1 HBS HXN;by_cases z2:xz = 2
  ·
   subst z2;have HE:Hid (lv16 S (en16 l) = true):=qz (by rw [HLV.out]; rfl);go_wp2_with fail;go_ret;exact ⟨by rw [HE.out]; rfl,HB.out⟩
  ·
   have hz2:(xz == 2) = false:=by simp [z2]
   have HE:Hid (lv16 S (en16 l) = (xz == 3)):=qz (by rw [HLV.out,hz2]; rfl);go_wp2_with fail;go_ret;exact ⟨by rw [HE.out]; rfl,HB.out⟩
theorem lt36_18 {x:Nat} (h:x < 4294967296 ^ 18):x < 65536 ^ 36:=Nat.lt_of_lt_of_le h (by decide)
def Qn18 (W:World) (lo:Nat) (x:Rat) (D1:Option Addr) (i1 t1:Nat) (D2:Option Addr) (i2 t2:Nat):Prop :=
 (∃ L,lo<=L/\Num W L (.agg #[.slice D1 i1 t1]) (qr18 x).1)/\∃ L,lo<=L/\Num W L (.agg #[.slice D2 i2 t2]) (qr18 x).2
theorem Qn18.below {W W':World} {lo:Nat} {x:Rat} {D1:Option Addr} {i1 t1:Nat} {D2:Option Addr} {i2 t2:Nat} (h:Qn18 W lo x D1 i1 t1 D2 i2 t2) (hb:Below W.heap.size W W'):Qn18 W' lo x D1 i1 t1 D2 i2 t2:=by
 obtain ⟨⟨L,h1,h2⟩,⟨L',h3,h4⟩⟩:=h;exact ⟨⟨L,h1,h2.below hb⟩,⟨L',h3,h4.below hb⟩⟩
theorem Qn18.lower {W:World} {lo lo':Nat} {x:Rat} {D1:Option Addr} {i1 t1:Nat} {D2:Option Addr} {i2 t2:Nat} (h:Qn18 W lo x D1 i1 t1 D2 i2 t2) (hl:lo'<=lo):Qn18 W lo' x D1 i1 t1 D2 i2 t2:=by
 obtain ⟨⟨L,h1,h2⟩,⟨L',h3,h4⟩⟩:=h;exact ⟨⟨L,by omega,h2⟩,⟨L',by omega,h4⟩⟩
theorem qn18_of {W:World} {lo lo':Nat} {x:Rat} {D1:Option Addr} {i1 t1:Nat} {D2:Option Addr} {i2 t2:Nat} (h1:∃ L,lo<=L/\Num W L (.agg #[.slice D1 i1 t1]) (qr18 x).1) (h2:∃ L,lo<=L/\Num W L (.agg #[.slice D2 i2 t2]) (qr18 x).2) (hl:lo'<=lo):Qn18 W lo' x D1 i1 t1 D2 i2 t2:=Qn18.lower ⟨h1,h2⟩ hl
theorem Qn18.congr {W:World} {lo:Nat} {x y:Rat} {D1:Option Addr} {i1 t1:Nat} {D2:Option Addr} {i2 t2:Nat} (h:Qn18 W lo x D1 i1 t1 D2 i2 t2) (e:x = y):Qn18 W lo y D1 i1 t1 D2 i2 t2:=e ▸ h
def putQ18 (W:World) (g:Nat) (x y:Value):World:=(W.setCell ⟨g,0,none⟩ x).setCell ⟨g,1,none⟩ y
theorem Qn18.put {W:World} {lo g:Nat} {x:Rat} {D1:Option Addr} {i1 t1:Nat} {D2:Option Addr} {i2 t2:Nat} (h:Qn18 W lo x D1 i1 t1 D2 i2 t2) {B1 B2:Option Addr} {m1 d1 m2 d2:Nat} (hq:Blk W g 35 #[.slice B1 m1 d1,.slice B2 m2 d2]) (u v:Value):Qn18 (putQ18 W g u v) lo x D1 i1 t1 D2 i2 t2:=by
 obtain ⟨⟨L,h1,h2⟩,⟨L',h3,h4⟩⟩:=h;have q0:W.cell? ⟨g,0,none⟩ = some (.slice B1 m1 d1):=hq.cell 0;have q1:(W.setCell ⟨g,0,none⟩ u).cell? ⟨g,1,none⟩ = some (.slice B2 m2 d2):=(hq.set_ 0 u).cell 1;exact ⟨⟨L,h1,(h2.setSi q0).setSi q1⟩,⟨L',h3,(h4.setSi q0).setSi q1⟩⟩
theorem rd18_set {W:World} {B g i m d:Nat} {A X:Option Addr} {xs:List Nat} (h:Rd W B A xs) (hg:W.cell? ⟨g,i,none⟩ = some (.slice X m d)) (u:Value):Rd (W.setCell ⟨g,i,none⟩ u) B A xs:=fun hx => by
 obtain ⟨b,o,e1,e2,e3⟩:=h hx;refine ⟨b,o,e1,e2,fun k hk => ?_⟩;rw [World.cell?_setCell_other W _ _ u (fun e => by have:=e3 k hk; rw [<- e,hg] at this; cases this)];exact e3 k hk
theorem rd18_put {W:World} {g:Nat} {A:Option Addr} {xs:List Nat} (h:Rd W W.heap.size A xs) {B1 B2:Option Addr} {m1 d1 m2 d2:Nat} (hq:Blk W g 35 #[.slice B1 m1 d1,.slice B2 m2 d2]) (u v:Value):Rd (putQ18 W g u v) (putQ18 W g u v).heap.size A xs:=by
 have q0:W.cell? ⟨g,0,none⟩ = some (.slice B1 m1 d1):=hq.cell 0;have q1:(W.setCell ⟨g,0,none⟩ u).cell? ⟨g,1,none⟩ = some (.slice B2 m2 d2):=(hq.set_ 0 u).cell 1;have h1:=rd18_set (rd18_set h q0 u) q1 v;rw [show (putQ18 W g u v).heap.size = W.heap.size by unfold putQ18; rw [setCell_size,setCell_size]];exact h1
theorem rd18_cell {W:World} {B ga oa k:Nat} {xs:List Nat} (h:Rd W B (some ⟨ga,oa,none⟩) xs) (hk:k < xs.length):W.cell? ⟨ga,oa + k,none⟩ = some (.int .i64 ((nth xs k:Nat):Int)):=by
 obtain ⟨b,o,e1,_,e3⟩:=h.at_ hk;injection e1 with e1
 injection e1 with e1 e2
 subst e1;subst e2;exact e3
def Sq18 (x:Rat):Prop:=0<=x/\(qr18 x).1 < 65536 ^ 36/\(qr18 x).2 < 65536 ^ 36
theorem add18_q {x y:Rat} {A1 A2 A3 A4:Option Addr} {n1 c1 n2 c2 n3 c3 n4 c4 lo lo':Nat} (w:World) (h:Qn18 w lo x A1 n1 c1 A2 n2 c2) (h':Qn18 w lo' y A3 n3 c3 A4 n4 c4) (hx:Sq18 x) (hy:Sq18 y) :
  Calls Tryz.prog 32 #[.agg #[.slice A1 n1 c1,.slice A2 n2 c2],.agg #[.slice A3 n3 c3,.slice A4 n4 c4]] w (RetDB w (qr18 (x + y)).1 (qr18 (x + y)).2):=by
 obtain ⟨⟨L1,_,h1⟩,⟨L2,_,h2⟩⟩:=h;obtain ⟨⟨L3,_,h3⟩,⟨L4,_,h4⟩⟩:=h';have hr1:=(qr18_rt hx.1).1.1;have hr2:=(qr18_rt hy.1).1.1;have hadd:=add4_b (j:=36) A1 A2 A3 A4 n1 c1 n2 c2 n3 c3 n4 c4 _ _ _ _ L1 L2 L3 L4 w h1 h2 h3 h4 hx.2.1 hx.2.2 hy.2.1 hy.2.2 (Nat.mul_pos hr1 hr2) (by omega);have e:=qr18_addR hx.1 hy.1;unfold addR redQ at e;rw [<- e];exact hadd
theorem mul18_q {x y:Rat} {A1 A2 A3 A4:Option Addr} {n1 c1 n2 c2 n3 c3 n4 c4 lo lo':Nat} (w:World) (h:Qn18 w lo x A1 n1 c1 A2 n2 c2) (h':Qn18 w lo' y A3 n3 c3 A4 n4 c4) (hx:Sq18 x) (hy:Sq18 y) :
  Calls Tryz.prog 66 #[.agg #[.slice A1 n1 c1,.slice A2 n2 c2],.agg #[.slice A3 n3 c3,.slice A4 n4 c4]] w (RetDB w (qr18 (x * y)).1 (qr18 (x * y)).2):=by
 obtain ⟨⟨L1,_,h1⟩,⟨L2,_,h2⟩⟩:=h;obtain ⟨⟨L3,_,h3⟩,⟨L4,_,h4⟩⟩:=h';have hr1:=(qr18_rt hx.1).1.1;have hr2:=(qr18_rt hy.1).1.1;have hmul:=mul4_b (j:=36) A1 A2 A3 A4 n1 c1 n2 c2 n3 c3 n4 c4 _ _ _ _ L1 L2 L3 L4 w h1 h2 h3 h4 hx.2.1 hx.2.2 hy.2.1 hy.2.2 (Nat.mul_pos hr1 hr2) (by omega);have e:=qr18_mulR hx.1 hy.1;unfold mulR redQ at e;rw [<- e];exact hmul
theorem int18_q (n:Nat) (w:World) (hn:n < 18446744073709551616):Calls Tryz.prog 10 #[.int .u64 (n:Int)] w (RetDB w (qr18 (n:Rat)).1 (qr18 (n:Rat)).2):=by
 rw [qr18_nat];exact int4_b n w hn
theorem int18_0 (w:World):Calls Tryz.prog 10 #[.int .u64 0] w (RetDB w (qr18 0).1 (qr18 0).2):=by
 rw [qr18_zero];exact int4_b 0 w (by omega)
theorem of18_q (n d:Nat) (w:World) (hn:n < 18446744073709551616) (hd:d < 18446744073709551616) (hd0:0 < d):Calls Tryz.prog 67 #[.int .u64 (n:Int),.int .u64 (d:Int)] w (RetDB w (qr18 ((n:Rat) / (d:Rat))).1 (qr18 ((n:Rat) / (d:Rat))).2):=by
 rw [<- qr18_div hd0];exact of4_b n d w hn hd hd0
theorem Wo18.sq {S:Sv14} {wC wT:Nat->Rat} (h:Wo18 S wC wT) (hf:Fine14 S):(∀ c,Sq18 (wC c))/\(∀ k,Sq18 (wT k))/\∀ (l:List Nat) (i:Nat),i<=100->Sq18 (tsum18 wT l i):=by
 obtain ⟨h1,h2⟩:=h.small hf;obtain ⟨h3,h4,h5⟩:=h.fits hf;exact ⟨fun c => ⟨(h1 c).2.1,lt36_18 (h3 c).1,lt36_18 (h3 c).2⟩,fun k => ⟨(h2 k).2.1,lt36_18 (h4 k).1,lt36_18 (h4 k).2⟩,fun l i hi => ⟨tsum18_nonneg (fun k => (h2 k).2.1) i,lt36_18 (h5 l i hi).1,lt36_18 (h5 l i hi).2⟩⟩
structure Sr18 (w:World) (S:Sv14) (A0 A1 A2 A3 A4:Option Addr) (n0 n1 n2 n3 n4 c0 c1 c2 c3 c4:Nat) (sq:Int) (A:Option Addr) (l:List Nat) (W:World):Prop where
 b:By16 w S A0 A1 A2 A3 A4 n0 n1 n2 n3 n4 c0 c1 c2 c3 c4 sq W
 r:Rd W W.heap.size A l
theorem Sr18.step {w:World} {S:Sv14} {A0 A1 A2 A3 A4:Option Addr} {n0 n1 n2 n3 n4 c0 c1 c2 c3 c4:Nat} {sq:Int} {A:Option Addr} {l:List Nat} {W W':World} (h:Sr18 w S A0 A1 A2 A3 A4 n0 n1 n2 n3 n4 c0 c1 c2 c3 c4 sq A l W) (hb:Below W.heap.size W W'):Sr18 w S A0 A1 A2 A3 A4 n0 n1 n2 n3 n4 c0 c1 c2 c3 c4 sq A l W':=⟨h.b.step hb,(h.r.below hb (Nat.le_refl _)).more hb.size⟩
theorem Sr18.put {w:World} {S:Sv14} {A0 A1 A2 A3 A4:Option Addr} {n0 n1 n2 n3 n4 c0 c1 c2 c3 c4:Nat} {sq:Int} {A:Option Addr} {l:List Nat} {W:World} (h:Sr18 w S A0 A1 A2 A3 A4 n0 n1 n2 n3 n4 c0 c1 c2 c3 c4 sq A l W) {g:Nat} (hg:w.heap.size + 1<=g) {B1 B2:Option Addr} {m1 d1 m2 d2:Nat} (hq:Blk W g 35 #[.slice B1 m1 d1,.slice B2 m2 d2]) (u v:Value):Sr18 w S A0 A1 A2 A3 A4 n0 n1 n2 n3 n4 c0 c1 c2 c3 c4 sq A l (putQ18 W g u v) :=
 ⟨h.b.low (((Below.refl _ _).setCell hg _).setCell hg _),rd18_put h.r hq u v⟩
structure Sm18q (w:World) (gq:Nat) (x:Rat) (W:World):Prop where
 o:Blk W (w.heap.size + 1) 35 #[.slice none 0 0,.slice none 0 0]
 q:∃ D1 i1 t1 D2 i2 t2,Blk W gq 35 #[.slice D1 i1 t1,.slice D2 i2 t2]/\Qn18 W w.heap.size x D1 i1 t1 D2 i2 t2
theorem rcoin18_base (v:Value) (S:Sv14) (wC wT:Nat->Rat) (w:World) (h:St14 w v S) (hf:Fine14 S) (hw:Wo18 S wC wT) :
  Calls Tryz.prog 68 #[v,.int .i64 0] w (RetDB w (qr18 (wC 0)).1 (qr18 (wC 0)).2):=by
 obtain ⟨A0,A1,A2,A3,A4,n0,n1,n2,n3,n4,c0,c1,c2,c3,c4,sq,rfl,hs⟩:=h;have hx0:By16 w S A0 A1 A2 A3 A4 n0 n1 n2 n3 n4 c0 c1 c2 c3 c4 sq _:=⟨Bx14.new hs,hs⟩
 obtain ⟨W1,hW1⟩:=exq (w.alloc (.cells #[.slice A0 n0 c0,.slice A1 n1 c1,.slice A2 n2 c2,.slice A3 n3 c3,.slice A4 n4 c4,.int .i64 sq] 28));have hz1:W1.heap.size = w.heap.size + 1:=by rw [<- hW1]; simp
 rw [hW1] at hx0;have hb2:=b1' W1 (.cells #[.slice none 0 0,.slice none 0 0] 35);have hk2:=Blk.new W1 35 #[.slice none 0 0,.slice none 0 0];obtain ⟨W2,hW2⟩:=exq (W1.alloc (.cells #[.slice none 0 0,.slice none 0 0] 35));have hz2:W2.heap.size = w.heap.size + 2:=by rw [<- hW2]; simp; omega
 rw [hW2,hz1] at hk2;rw [hW2] at hb2;have hx2:=hx0.step hb2;have HX2:=qz hx2;have HO2:=qz hk2;obtain ⟨x0,x1,x2,x3,x4,x5⟩:=ce6 hx2.b.x;have hA:=amn17_int hf.2.2.2.2.1 0;have hbd:=amt17_bound hf.2.2.2.2.1 0 S.T.length;have h96:S.T.length<=96:=hf.2.2.1.2.1.1;obtain ⟨z,hz⟩:=exq (amn17 S 0)
 have hwz:wC 0 = (z:Rat):=by
  rw [hw.c 0,if_pos rfl,<- hA,hz];rfl
 have HRA:=qz (fun W (h:Bx14 w S A0 A1 A2 A3 A4 n0 n1 n2 n3 n4 c0 c1 c2 c3 c4 sq W) => ramount17 (.agg #[.slice A0 n0 c0,.slice A1 n1 c1,.slice A2 n2 c2,.slice A3 n3 c3,.slice A4 n4 c4,.int .i64 sq]) S hf 0 W h.st);rw [<- hA,hz] at HRA;have hz64:z < 9223372036854775808:=by omega
 have hwr:IntKind.u64.wrap (z:Int) = (z:Int):=by rw [IntKind.wrap_u64]; omega
 have HIN:=qz (fun W => int18_q z W (by omega));rw [hwz];clear hs hx0 hb2 hk2 hx2 hf hw hA hbd h96 hz hwz;go_enter Tryz.func68,Tryz.ntmps68;go_wp2_with fail;refine (HRA.out _ HX2.out.b).mono ?_;rintro e w3 ⟨rfl,hb3⟩;have HX3:=qz (HX2.out.step hb3);have HO3:=qz (HO2.out.below hb3 HO2.out.lt);clear hb3 HRA HX2 HO2 x0 x1 x2 x3 x4 x5;go_wp2_with fail
 refine (HIN.out _).mono ?_;rintro e w4 ⟨D1,i1,t1,D2,i2,t2,rfl,hq1,hq2,hb4⟩;have HX4:=qz (HX3.out.step hb4);have HO4:=qz (HO3.out.below hb4 HO3.out.lt);have HN:Hid (Qn18 w4 w.heap.size (z:Rat) D1 i1 t1 D2 i2 t2):=qz (qn18_of hq1 hq2 HX3.out.b.b.size);have r0:=HO4.out.cell 0;have r1:=HO4.out.cell 1;have f0:=HO4.out.frozen 0;have f1:=HO4.out.frozen 1
 clear hq1 hq2 hb4 HX3 HO3 HIN hW1 hW2
 try rw [hz1]
 clear hz1 hz2;go_wp2_with fail;have hp:=put_Q HO4.out (.slice D1 i1 t1) (.slice D2 i2 t2);have hfin:=HN.out.put HO4.out (.slice D1 i1 t1) (.slice D2 i2 t2)
 exact bodyPost_ret (v:=.agg #[.slice D1 i1 t1,.slice D2 i2 t2]) (by simp [results,Tryz.results68,go_sem,hp.cell 0,hp.cell 1]) rfl
  ⟨_,_,_,_,_,_,rfl,hfin.1,hfin.2,(HX4.out.b.b.setCell (by show w.heap.size<=w.heap.size + 1; omega) _).setCell (by show w.heap.size<=w.heap.size + 1; omega) _⟩
theorem rcoin18_more (v:Value) (S:Sv14) (wC wT:Nat->Rat) (c:Nat) (w:World) (h:St14 w v S) (hf:Fine14 S) (hw:Wo18 S wC wT) (h0:c≠0)
  (hT:∀ k,k < S.T.length->(gt14 S.T k).u = true->(gt14 S.T k).k = 2->(gt14 S.T k).t = (c:Int)->∀ W,St14 W v S->Calls Tryz.prog 50 #[v,.int .i64 (k:Int)] W (RetDB W (qr18 (wT k)).1 (qr18 (wT k)).2)) :
  Calls Tryz.prog 68 #[v,.int .i64 (c:Int)] w (RetDB w (qr18 (wC c)).1 (qr18 (wC c)).2):=by
 obtain ⟨A0,A1,A2,A3,A4,n0,n1,n2,n3,n4,c0,c1,c2,c3,c4,sq,rfl,hs⟩:=h;have hx0:By16 w S A0 A1 A2 A3 A4 n0 n1 n2 n3 n4 c0 c1 c2 c3 c4 sq _:=⟨Bx14.new hs,hs⟩
 obtain ⟨W1,hW1⟩:=exq (w.alloc (.cells #[.slice A0 n0 c0,.slice A1 n1 c1,.slice A2 n2 c2,.slice A3 n3 c3,.slice A4 n4 c4,.int .i64 sq] 28));have hz1:W1.heap.size = w.heap.size + 1:=by rw [<- hW1]; simp
 rw [hW1] at hx0;have hb2:=b1' W1 (.cells #[.slice none 0 0,.slice none 0 0] 35);have hk2:=Blk.new W1 35 #[.slice none 0 0,.slice none 0 0];obtain ⟨W2,hW2⟩:=exq (W1.alloc (.cells #[.slice none 0 0,.slice none 0 0] 35));have hz2:W2.heap.size = w.heap.size + 2:=by rw [<- hW2]; simp; omega
 rw [hW2,hz1] at hk2;rw [hW2] at hb2;have hx2:=hx0.step hb2;have HX2:=qz hx2;have HO2:=qz hk2;obtain ⟨x0,x1,x2,x3,x4,x5⟩:=ce6 hx2.b.x;obtain ⟨l,hl⟩:=exq (tks15 S (fnd15 2 (c:Int)) S.T.length);obtain ⟨m,hm⟩:=exq l.length;have HM:=qz hm
 have hlm:m<=100:=by
  have h1:=tks15_len S (fnd15 2 (c:Int)) S.T.length;have h2:S.T.length<=96:=hf.2.2.1.2.1.1;rw [<- hm,<- hl];omega
 obtain ⟨_,hsqt,hsql⟩:=hw.sq hf;have HSQ:Hid (∀ k,k<=m->Sq18 (tsum18 wT l k)):=qz (fun k hk => hsql l k (by omega));have HST:Hid (∀ j,Sq18 (wT j)):=qz hsqt;have HEQ:Hid (wC c = tsum18 wT l m):=qz (by rw [hw.coin_list h0,hl,hm])
 have HLS:=qz (fun W (h:Bx14 w S A0 A1 A2 A3 A4 n0 n1 n2 n3 n4 c0 c1 c2 c3 c4 sq W) => rtickets15_1 (.agg #[.slice A0 n0 c0,.slice A1 n1 c1,.slice A2 n2 c2,.slice A3 n3 c3,.slice A4 n4 c4,.int .i64 sq]) S (c:Int) W h.st);rw [hl] at HLS
 have HTK:Hid (∀ j,j∈l->∀ W (h:Bx14 w S A0 A1 A2 A3 A4 n0 n1 n2 n3 n4 c0 c1 c2 c3 c4 sq W),Calls Tryz.prog 50 #[(.agg #[.slice A0 n0 c0,.slice A1 n1 c1,.slice A2 n2 c2,.slice A3 n3 c3,.slice A4 n4 c4,.int .i64 sq]),.int .i64 (j:Int)] W (RetDB W (qr18 (wT j)).1 (qr18 (wT j)).2)):=qz (fun j hj W h => by
  rw [<- hl] at hj;have h1:=tks15_mem.1 hj;unfold fnd15 at h1;simp only [decide_eq_true_iff] at h1
  exact hT j h1.1 h1.2.1 h1.2.2.1 h1.2.2.2 W h.st)
 have hcb:((c:Int) == 0) = false:=by simp; omega
 clear hs hx0 hb2 hk2 hx2 hf hw hT hl hm hsqt hsql h0;go_enter Tryz.func68,Tryz.ntmps68;go_wp2_with fail;refine (int18_0 _).mono ?_;rintro e w3 ⟨D1,i1,t1,D2,i2,t2,rfl,hq1,hq2,hb3⟩;have ha3:=b1' w3 (.cells #[.slice D1 i1 t1,.slice D2 i2 t2] 35);have hv3:=Blk.new w3 35 #[.slice D1 i1 t1,.slice D2 i2 t2];have hx3:=(HX2.out.step hb3).step ha3
 have hgq:w.heap.size + 2<=w3.heap.size:=by have:=hb3.size; omega
 obtain ⟨gq,hgq0⟩:=exq w3.heap.size;obtain ⟨W3,hW3⟩:=exq (w3.alloc (.cells #[.slice D1 i1 t1,.slice D2 i2 t2] 35))
 have HQ3:Hid (Sm18q w gq 0 W3):=qz ⟨by rw [<- hW3]; exact (HO2.out.below hb3 HO2.out.lt).below ha3 (HO2.out.below hb3 HO2.out.lt).lt,D1,i1,t1,D2,i2,t2,by rw [<- hW3,<- hgq0]; exact hv3,by rw [<- hW3]; exact (Qn18.below (⟨hq1,hq2⟩:Qn18 w3 _ 0 D1 i1 t1 D2 i2 t2) ha3).lower (by omega)⟩;rw [hW3] at hx3;rw [hgq0] at hgq;have HX3:=qz hx3
 obtain ⟨y0,y1,y2,y3,y4,y5⟩:=ce6 hx3.b.x;clear hq1 hq2 hb3 ha3 hv3 hx3 HX2 HO2 x0 x1 x2 x3 x4 x5 hW1 hW2;go_upto_region 4 with (fail)
 try rw [hgq0]
 try rw [hW3]
 clear hgq0 hW3 hz1 hz2;go_wp2_with fail;refine (HLS.out _ HX3.out.b).mono ?_;rintro e w4 ⟨A,ca,rfl,hr4,hb4⟩;rw [HM.out];have HS4:Hid (Sr18 w S A0 A1 A2 A3 A4 n0 n1 n2 n3 n4 c0 c1 c2 c3 c4 sq A l w4):=qz ⟨HX3.out.step hb4,hr4⟩
 have HQ4:Hid (Sm18q w gq (tsum18 wT l 0) w4):=qz (by
  obtain ⟨o,D1,i1,t1,D2,i2,t2,h1,h2⟩:=HQ3.out
  exact ⟨o.below hb4 o.lt,D1,i1,t1,D2,i2,t2,h1.below hb4 h1.lt,h2.below hb4⟩)
 clear hr4 hb4 HX3 HQ3 HLS y0 y1 y2 y3 y4 y5;go_wp2_with fail;go_loopw [7] (fun i wr => ∃ k:Nat,i = .int .i64 (k:Int)/\k<=m/\Hid (Sr18 w S A0 A1 A2 A3 A4 n0 n1 n2 n3 n4 c0 c1 c2 c3 c4 sq A l wr)/\Hid (Sm18q w gq (tsum18 wT l k) wr)) (fun i _ => m - (intOf i).toNat)
 case atStart => exact ⟨0,rfl,by omega,HS4,HQ4⟩
 case round =>
  clear HS4 HQ4;obtain ⟨k,rfl,hk,HS,HQ⟩:=hrel;by_cases hkm:k < m
  ·
   have hkl:k < l.length:=by rw [HM.out]; exact hkm
   obtain ⟨ga,oa,hA,hab,q0⟩:=HS.out.r.at_ hkl;obtain ⟨j,hj⟩:=exq (nth l k);have hjl:j∈l:=by rw [<- hj,nth_in hkl]; exact List.getElem_mem _
   have HTJ:=qz (HTK.out j hjl);have i0:(0:Int)<=(k:Int):=by omega
   have i1:(k:Int) < (m:Int):=by omega
   obtain ⟨ho,D1,n1',t1,D2,n2',t2,hv,hn⟩:=HQ.out;have HO:Hid (Blk wr.drew (w.heap.size + 1) 35 #[.slice none 0 0,.slice none 0 0]):=qz (ho.below (Below.refl wr.heap.size wr).drew ho.lt);have HV:Hid (Blk wr.drew gq 35 #[.slice D1 n1' t1,.slice D2 n2' t2]):=qz (hv.below (Below.refl wr.heap.size wr).drew hv.lt)
   have HN:Hid (Qn18 wr.drew w.heap.size (tsum18 wT l k) D1 n1' t1 D2 n2' t2):=qz (hn.below (Below.refl wr.heap.size wr).drew);have HKL:=qz hkl;have HJ:=qz hj;have HSX:=qz (HSQ.out k (by omega));have HSY:=qz (HST.out j);have HNX:Hid (tsum18 wT l (k + 1) = tsum18 wT l k + wT j):=qz (by rw [tsum18,hj]);clear hab q0 hj hjl ho hv hn HQ hkl;subst hA
   have HXN:Hid (Sr18 w S A0 A1 A2 A3 A4 n0 n1 n2 n3 n4 c0 c1 c2 c3 c4 sq (some ⟨ga,oa,none⟩) l wr.drew):=qz (HS.out.step (Below.refl _ _).drew);clear HS;obtain ⟨wn,hwn⟩:=exq wr.drew;rw [hwn] at HXN HO HV HN;go_wp2_with fail
   refine wp_region_held_drew (S:=Sr18 w S A0 A1 A2 A3 A4 n0 n1 n2 n3 n4 c0 c1 c2 c3 c4 sq (some ⟨ga,oa,none⟩) l) (by kernel_rfl) (by rw [hwn]; exact HXN.out) (fun hHeld => ?_);rw [hwn] at hHeld ⊢;clear hwn;have HBS:=HXN;refine tk 1 (v:=?_) (fun W hS => ?_) ?_;rotate_left
   ·
    try dsimp only at hS
    obtain ⟨z0,z1,z2,z3,z4,z5⟩:=ce6 hS.b.b.x;go_simp
    try with_reducible rfl
   try simp only [Act.put,pt1,pt2,pt3]
   refine tkq 2 ?_;refine tkq 3 ?_;refine tkq 4 ?_;refine tk 5 (v:=?_) (fun W hS => ?_) ?_;rotate_left
   ·
    try dsimp only at hS
    have z0:=rd18_cell hS.r HKL.out;rw [HJ.out] at z0;go_simp
    try with_reducible rfl
   try simp only [Act.put,pt1,pt2,pt3]
   refine wpAnyH_ready (rs:=[0,6]) (by kernel_rfl) (by simp) (AllReadyH.cons (op_of rfl) (fun K hK => ?_) (AllReadyH.cons (op_of rfl) (fun K hK => ?_) AllReadyH.nil))
   ·
    skip;have p0:=HV.out.cell 0;have p1:=HV.out.cell 1;go_simp;refine koq hK HBS.out (fun hHeld=>?_);clear hK K;refine rdy 6 (fun K hK => ?_);have HBS0:=HBS;go_simp;refine (HTJ.out _ HBS0.out.b.b).mono ?_;rintro e wn ⟨E1,j1,o1,E2,j2,o2,rfl,hx,hy,hb⟩;have HBS:=qz (HBS0.out.step hb);have HO:=qz (HO.out.below hb HO.out.lt)
    have HV:=qz (HV.out.below hb HV.out.lt);have HN:=qz (HN.out.below hb);have HT:Hid (Qn18 wn _ (wT j) E1 j1 o1 E2 j2 o2):=qz ⟨hx,hy⟩;clear hb HBS0 hx hy;refine koq hK HBS.out (fun hHeld=>?_);clear hK K;refine rdy 7 (fun K hK => ?_);have HBS0:=HBS;go_simp;refine (add18_q wn HN.out HT.out HSX.out HSY.out).mono ?_
    rintro e wn ⟨F1,k1,s1,F2,k2,s2,rfl,hx,hy,hb⟩;have HBS:=qz (HBS0.out.step hb);have HO:=qz (HO.out.below hb HO.out.lt);have HV:=qz (HV.out.below hb HV.out.lt);have hls:=HBS0.out.b.b.b.size;have HR:Hid (Qn18 wn w.heap.size (tsum18 wT l k + wT j) F1 k1 s1 F2 k2 s2):=qz (qn18_of hx hy hls);clear hls;clear hb HBS0 hx hy HT HN
    refine koq hK HBS.out (fun hHeld=>?_);clear hK K;refine rdy 8 (fun K hK => ?_);have x0:=HV.out.cell 0;have x1:=HV.out.cell 1;have xf0:=HV.out.frozen 0;have xf1:=HV.out.frozen 1;have HBS0:=HBS;go_simp;obtain ⟨wm,hwm⟩:=exq ((wn.setCell ⟨gq,0,none⟩ (.slice F1 k1 s1)).setCell ⟨gq,1,none⟩ (.slice F2 k2 s2));have hgn:w.heap.size + 1≠gq:=by omega
    have HBS:=qz (show Sr18 w S A0 A1 A2 A3 A4 n0 n1 n2 n3 n4 c0 c1 c2 c3 c4 sq (some ⟨ga,oa,none⟩) l wm by rw [<- hwm]; exact HBS0.out.put (by omega) HV.out _ _);have HR:=qz (show Qn18 wm w.heap.size _ F1 k1 s1 F2 k2 s2 by rw [<- hwm]; exact HR.out.put HV.out _ _)
    have HO:=qz (show Blk wm (w.heap.size + 1) 35 _ by rw [<- hwm]; exact (HO.out.far hgn _).far hgn _);have HV:=qz (show Blk wm gq 35 _ by rw [<- hwm]; exact put_Q HV.out (.slice F1 k1 s1) (.slice F2 k2 s2));rw [hwm];clear hwm hgn x0 x1 xf0 xf1 HBS0;obtain ⟨wn,hwn⟩:∃ W,W = wm:=⟨_,rfl⟩
    subst hwn;refine koq hK HBS.out (fun hHeld=>?_);clear hK K;refine wpAnyH_done (by kernel_rfl) ?_ _;clear hHeld;have HQN:Hid (Sm18q w gq (tsum18 wT l (k + 1)) wn):=qz ⟨HO.out,F1,k1,s1,F2,k2,s2,HV.out,HR.out.congr HNX.out.symm⟩;have HN:=HBS;clear HXN HTJ HBS HO HV HR HSX HSY HNX;go_wp2_with fail;go_roundw
    case rel => exact ⟨k + 1,by go_num,by omega,HN,HQN⟩
    case measure => simp [intOf]; omega
   ·
    skip;have HBS0:=HBS;go_simp;refine (HTJ.out _ HBS0.out.b.b).mono ?_;rintro e wn ⟨E1,j1,o1,E2,j2,o2,rfl,hx,hy,hb⟩;have HBS:=qz (HBS0.out.step hb);have HO:=qz (HO.out.below hb HO.out.lt);have HV:=qz (HV.out.below hb HV.out.lt);have HN:=qz (HN.out.below hb);have HT:Hid (Qn18 wn _ (wT j) E1 j1 o1 E2 j2 o2):=qz ⟨hx,hy⟩;clear hb HBS0 hx hy
    refine koq hK HBS.out (fun hHeld=>?_);clear hK K;refine rdy 0 (fun K hK => ?_);have p0:=HV.out.cell 0;have p1:=HV.out.cell 1;go_simp;refine koq hK HBS.out (fun hHeld=>?_);clear hK K;refine rdy 7 (fun K hK => ?_);have HBS0:=HBS;go_simp;refine (add18_q wn HN.out HT.out HSX.out HSY.out).mono ?_;rintro e wn ⟨F1,k1,s1,F2,k2,s2,rfl,hx,hy,hb⟩
    have HBS:=qz (HBS0.out.step hb);have HO:=qz (HO.out.below hb HO.out.lt);have HV:=qz (HV.out.below hb HV.out.lt);have hls:=HBS0.out.b.b.b.size;have HR:Hid (Qn18 wn w.heap.size (tsum18 wT l k + wT j) F1 k1 s1 F2 k2 s2):=qz (qn18_of hx hy hls);clear hls;clear hb HBS0 hx hy HT HN;refine koq hK HBS.out (fun hHeld=>?_);clear hK K
    refine rdy 8 (fun K hK => ?_);have x0:=HV.out.cell 0;have x1:=HV.out.cell 1;have xf0:=HV.out.frozen 0;have xf1:=HV.out.frozen 1;have HBS0:=HBS;go_simp;obtain ⟨wm,hwm⟩:=exq ((wn.setCell ⟨gq,0,none⟩ (.slice F1 k1 s1)).setCell ⟨gq,1,none⟩ (.slice F2 k2 s2));have hgn:w.heap.size + 1≠gq:=by omega
    have HBS:=qz (show Sr18 w S A0 A1 A2 A3 A4 n0 n1 n2 n3 n4 c0 c1 c2 c3 c4 sq (some ⟨ga,oa,none⟩) l wm by rw [<- hwm]; exact HBS0.out.put (by omega) HV.out _ _);have HR:=qz (show Qn18 wm w.heap.size _ F1 k1 s1 F2 k2 s2 by rw [<- hwm]; exact HR.out.put HV.out _ _)
    have HO:=qz (show Blk wm (w.heap.size + 1) 35 _ by rw [<- hwm]; exact (HO.out.far hgn _).far hgn _);have HV:=qz (show Blk wm gq 35 _ by rw [<- hwm]; exact put_Q HV.out (.slice F1 k1 s1) (.slice F2 k2 s2));rw [hwm];clear hwm hgn x0 x1 xf0 xf1 HBS0;obtain ⟨wn,hwn⟩:∃ W,W = wm:=⟨_,rfl⟩
    subst hwn;refine koq hK HBS.out (fun hHeld=>?_);clear hK K;refine wpAnyH_done (by kernel_rfl) ?_ _;clear hHeld;have HQN:Hid (Sm18q w gq (tsum18 wT l (k + 1)) wn):=qz ⟨HO.out,F1,k1,s1,F2,k2,s2,HV.out,HR.out.congr HNX.out.symm⟩;have HN:=HBS;clear HXN HTJ HBS HO HV HR HSX HSY HNX;go_wp2_with fail;go_roundw
    case rel => exact ⟨k + 1,by go_num,by omega,HN,HQN⟩
    case measure => simp [intOf]; omega
  ·
   obtain rfl:m = k:=by omega
   have i1:¬ (m:Int) < (m:Int):=by omega
   obtain ⟨ho,D1,n1',t1,D2,n2',t2,hv,hn⟩:=HQ.out;have HB:=qz HS.out.b.b.b;have HO:=qz ho;have HN:=qz hn;have v0:=hv.cell 0;have v1:=hv.cell 1;have r0:=ho.cell 0;have r1:=ho.cell 1;have f0:=ho.frozen 0;have f1:=ho.frozen 1;clear ho hv hn HQ HS HTK HSQ HST;go_wp2_with fail;have hp:=put_Q HO.out (.slice D1 n1' t1) (.slice D2 n2' t2)
   have hfin:=HN.out.put HO.out (.slice D1 n1' t1) (.slice D2 n2' t2);rw [HEQ.out]
   exact bodyPost_ret (v:=.agg #[.slice D1 n1' t1,.slice D2 n2' t2]) (by simp [results,Tryz.results68,go_sem,hp.cell 0,hp.cell 1]) rfl
    ⟨_,_,_,_,_,_,rfl,hfin.1,hfin.2,(HB.out.setCell (by show w.heap.size<=w.heap.size + 1; omega) _).setCell (by show w.heap.size<=w.heap.size + 1; omega) _⟩
theorem rthread18_of (v:Value) (S:Sv14) (wC wT:Nat->Rat) (c:Nat) (w:World) (h:St14 w v S) (hf:Fine14 S) (hw:Wo18 S wC wT)
  (hT:∀ k,k < S.T.length->(gt14 S.T k).u = true->(gt14 S.T k).k = 1->(gt14 S.T k).t = (c:Int)->∀ W,St14 W v S->Calls Tryz.prog 50 #[v,.int .i64 (k:Int)] W (RetDB W (qr18 (wT k)).1 (qr18 (wT k)).2)) :
  Calls Tryz.prog 30 #[v,.int .i64 (c:Int)] w (RetDB w (qr18 (th18 S wT c)).1 (qr18 (th18 S wT c)).2):=by
 obtain ⟨A0,A1,A2,A3,A4,n0,n1,n2,n3,n4,c0,c1,c2,c3,c4,sq,rfl,hs⟩:=h;have hx0:By16 w S A0 A1 A2 A3 A4 n0 n1 n2 n3 n4 c0 c1 c2 c3 c4 sq _:=⟨Bx14.new hs,hs⟩
 obtain ⟨W1,hW1⟩:=exq (w.alloc (.cells #[.slice A0 n0 c0,.slice A1 n1 c1,.slice A2 n2 c2,.slice A3 n3 c3,.slice A4 n4 c4,.int .i64 sq] 28));have hz1:W1.heap.size = w.heap.size + 1:=by rw [<- hW1]; simp
 rw [hW1] at hx0;have hb2:=b1' W1 (.cells #[.slice none 0 0,.slice none 0 0] 35);have hk2:=Blk.new W1 35 #[.slice none 0 0,.slice none 0 0];obtain ⟨W2,hW2⟩:=exq (W1.alloc (.cells #[.slice none 0 0,.slice none 0 0] 35));have hz2:W2.heap.size = w.heap.size + 2:=by rw [<- hW2]; simp; omega
 rw [hW2,hz1] at hk2;rw [hW2] at hb2;have hx2:=hx0.step hb2;have HX2:=qz hx2;have HO2:=qz hk2;obtain ⟨x0,x1,x2,x3,x4,x5⟩:=ce6 hx2.b.x;obtain ⟨l,hl⟩:=exq (tks15 S (fnd15 1 (c:Int)) S.T.length);obtain ⟨m,hm⟩:=exq l.length;have HM:=qz hm
 have hlm:m<=100:=by
  have h1:=tks15_len S (fnd15 1 (c:Int)) S.T.length;have h2:S.T.length<=96:=hf.2.2.1.2.1.1;rw [<- hm,<- hl];omega
 obtain ⟨_,hsqt,hsql⟩:=hw.sq hf;have HSQ:Hid (∀ k,k<=m->Sq18 (tsum18 wT l k)):=qz (fun k hk => hsql l k (by omega));have HST:Hid (∀ j,Sq18 (wT j)):=qz hsqt;have HEQ:Hid (th18 S wT c = tsum18 wT l m):=qz (by rw [th18_list,hl,hm])
 have HLS:=qz (fun W (h:Bx14 w S A0 A1 A2 A3 A4 n0 n1 n2 n3 n4 c0 c1 c2 c3 c4 sq W) => rtickets15_2 (.agg #[.slice A0 n0 c0,.slice A1 n1 c1,.slice A2 n2 c2,.slice A3 n3 c3,.slice A4 n4 c4,.int .i64 sq]) S (c:Int) W h.st);rw [hl] at HLS
 have HTK:Hid (∀ j,j∈l->∀ W (h:Bx14 w S A0 A1 A2 A3 A4 n0 n1 n2 n3 n4 c0 c1 c2 c3 c4 sq W),Calls Tryz.prog 50 #[(.agg #[.slice A0 n0 c0,.slice A1 n1 c1,.slice A2 n2 c2,.slice A3 n3 c3,.slice A4 n4 c4,.int .i64 sq]),.int .i64 (j:Int)] W (RetDB W (qr18 (wT j)).1 (qr18 (wT j)).2)):=qz (fun j hj W h => by
  rw [<- hl] at hj;have h1:=tks15_mem.1 hj;unfold fnd15 at h1;simp only [decide_eq_true_iff] at h1
  exact hT j h1.1 h1.2.1 h1.2.2.1 h1.2.2.2 W h.st)
 clear hs hx0 hb2 hk2 hx2 hf hw hT hl hm hsqt hsql;go_enter Tryz.func30,Tryz.ntmps30;go_wp2_with fail;refine (int18_0 _).mono ?_;rintro e w3 ⟨D1,i1,t1,D2,i2,t2,rfl,hq1,hq2,hb3⟩;have ha3:=b1' w3 (.cells #[.slice D1 i1 t1,.slice D2 i2 t2] 35);have hv3:=Blk.new w3 35 #[.slice D1 i1 t1,.slice D2 i2 t2];have hx3:=(HX2.out.step hb3).step ha3
 have hgq:w.heap.size + 2<=w3.heap.size:=by have:=hb3.size; omega
 obtain ⟨gq,hgq0⟩:=exq w3.heap.size;obtain ⟨W3,hW3⟩:=exq (w3.alloc (.cells #[.slice D1 i1 t1,.slice D2 i2 t2] 35))
 have HQ3:Hid (Sm18q w gq 0 W3):=qz ⟨by rw [<- hW3]; exact (HO2.out.below hb3 HO2.out.lt).below ha3 (HO2.out.below hb3 HO2.out.lt).lt,D1,i1,t1,D2,i2,t2,by rw [<- hW3,<- hgq0]; exact hv3,by rw [<- hW3]; exact (Qn18.below (⟨hq1,hq2⟩:Qn18 w3 _ 0 D1 i1 t1 D2 i2 t2) ha3).lower (by omega)⟩;rw [hW3] at hx3;rw [hgq0] at hgq;have HX3:=qz hx3
 obtain ⟨y0,y1,y2,y3,y4,y5⟩:=ce6 hx3.b.x;clear hq1 hq2 hb3 ha3 hv3 hx3 HX2 HO2 x0 x1 x2 x3 x4 x5 hW1 hW2;go_upto_region 2 with (fail)
 try rw [hgq0]
 try rw [hW3]
 clear hgq0 hW3 hz1 hz2;go_wp2_with fail;refine (HLS.out _ HX3.out.b).mono ?_;rintro e w4 ⟨A,ca,rfl,hr4,hb4⟩;rw [HM.out];have HS4:Hid (Sr18 w S A0 A1 A2 A3 A4 n0 n1 n2 n3 n4 c0 c1 c2 c3 c4 sq A l w4):=qz ⟨HX3.out.step hb4,hr4⟩
 have HQ4:Hid (Sm18q w gq (tsum18 wT l 0) w4):=qz (by
  obtain ⟨o,D1,i1,t1,D2,i2,t2,h1,h2⟩:=HQ3.out
  exact ⟨o.below hb4 o.lt,D1,i1,t1,D2,i2,t2,h1.below hb4 h1.lt,h2.below hb4⟩)
 clear hr4 hb4 HX3 HQ3 HLS y0 y1 y2 y3 y4 y5;go_wp2_with fail;go_loopw [7] (fun i wr => ∃ k:Nat,i = .int .i64 (k:Int)/\k<=m/\Hid (Sr18 w S A0 A1 A2 A3 A4 n0 n1 n2 n3 n4 c0 c1 c2 c3 c4 sq A l wr)/\Hid (Sm18q w gq (tsum18 wT l k) wr)) (fun i _ => m - (intOf i).toNat)
 case atStart => exact ⟨0,rfl,by omega,HS4,HQ4⟩
 case round =>
  clear HS4 HQ4;obtain ⟨k,rfl,hk,HS,HQ⟩:=hrel;by_cases hkm:k < m
  ·
   have hkl:k < l.length:=by rw [HM.out]; exact hkm
   obtain ⟨ga,oa,hA,hab,q0⟩:=HS.out.r.at_ hkl;obtain ⟨j,hj⟩:=exq (nth l k);have hjl:j∈l:=by rw [<- hj,nth_in hkl]; exact List.getElem_mem _
   have HTJ:=qz (HTK.out j hjl);have i0:(0:Int)<=(k:Int):=by omega
   have i1:(k:Int) < (m:Int):=by omega
   obtain ⟨ho,D1,n1',t1,D2,n2',t2,hv,hn⟩:=HQ.out;have HO:Hid (Blk wr.drew (w.heap.size + 1) 35 #[.slice none 0 0,.slice none 0 0]):=qz (ho.below (Below.refl wr.heap.size wr).drew ho.lt);have HV:Hid (Blk wr.drew gq 35 #[.slice D1 n1' t1,.slice D2 n2' t2]):=qz (hv.below (Below.refl wr.heap.size wr).drew hv.lt)
   have HN:Hid (Qn18 wr.drew w.heap.size (tsum18 wT l k) D1 n1' t1 D2 n2' t2):=qz (hn.below (Below.refl wr.heap.size wr).drew);have HKL:=qz hkl;have HJ:=qz hj;have HSX:=qz (HSQ.out k (by omega));have HSY:=qz (HST.out j);have HNX:Hid (tsum18 wT l (k + 1) = tsum18 wT l k + wT j):=qz (by rw [tsum18,hj]);clear hab q0 hj hjl ho hv hn HQ hkl;subst hA
   have HXN:Hid (Sr18 w S A0 A1 A2 A3 A4 n0 n1 n2 n3 n4 c0 c1 c2 c3 c4 sq (some ⟨ga,oa,none⟩) l wr.drew):=qz (HS.out.step (Below.refl _ _).drew);clear HS;obtain ⟨wn,hwn⟩:=exq wr.drew;rw [hwn] at HXN HO HV HN;go_wp2_with fail
   refine wp_region_held_drew (S:=Sr18 w S A0 A1 A2 A3 A4 n0 n1 n2 n3 n4 c0 c1 c2 c3 c4 sq (some ⟨ga,oa,none⟩) l) (by kernel_rfl) (by rw [hwn]; exact HXN.out) (fun hHeld => ?_);rw [hwn] at hHeld ⊢;clear hwn;have HBS:=HXN;refine tk 1 (v:=?_) (fun W hS => ?_) ?_;rotate_left
   ·
    try dsimp only at hS
    obtain ⟨z0,z1,z2,z3,z4,z5⟩:=ce6 hS.b.b.x;go_simp
    try with_reducible rfl
   try simp only [Act.put,pt1,pt2,pt3]
   refine tkq 2 ?_;refine tkq 3 ?_;refine tkq 4 ?_;refine tk 5 (v:=?_) (fun W hS => ?_) ?_;rotate_left
   ·
    try dsimp only at hS
    have z0:=rd18_cell hS.r HKL.out;rw [HJ.out] at z0;go_simp
    try with_reducible rfl
   try simp only [Act.put,pt1,pt2,pt3]
   refine wpAnyH_ready (rs:=[0,6]) (by kernel_rfl) (by simp) (AllReadyH.cons (op_of rfl) (fun K hK => ?_) (AllReadyH.cons (op_of rfl) (fun K hK => ?_) AllReadyH.nil))
   ·
    skip;have p0:=HV.out.cell 0;have p1:=HV.out.cell 1;go_simp;refine koq hK HBS.out (fun hHeld=>?_);clear hK K;refine rdy 6 (fun K hK => ?_);have HBS0:=HBS;go_simp;refine (HTJ.out _ HBS0.out.b.b).mono ?_;rintro e wn ⟨E1,j1,o1,E2,j2,o2,rfl,hx,hy,hb⟩;have HBS:=qz (HBS0.out.step hb);have HO:=qz (HO.out.below hb HO.out.lt)
    have HV:=qz (HV.out.below hb HV.out.lt);have HN:=qz (HN.out.below hb);have HT:Hid (Qn18 wn _ (wT j) E1 j1 o1 E2 j2 o2):=qz ⟨hx,hy⟩;clear hb HBS0 hx hy;refine koq hK HBS.out (fun hHeld=>?_);clear hK K;refine rdy 7 (fun K hK => ?_);have HBS0:=HBS;go_simp;refine (add18_q wn HN.out HT.out HSX.out HSY.out).mono ?_
    rintro e wn ⟨F1,k1,s1,F2,k2,s2,rfl,hx,hy,hb⟩;have HBS:=qz (HBS0.out.step hb);have HO:=qz (HO.out.below hb HO.out.lt);have HV:=qz (HV.out.below hb HV.out.lt);have hls:=HBS0.out.b.b.b.size;have HR:Hid (Qn18 wn w.heap.size (tsum18 wT l k + wT j) F1 k1 s1 F2 k2 s2):=qz (qn18_of hx hy hls);clear hls;clear hb HBS0 hx hy HT HN
    refine koq hK HBS.out (fun hHeld=>?_);clear hK K;refine rdy 8 (fun K hK => ?_);have x0:=HV.out.cell 0;have x1:=HV.out.cell 1;have xf0:=HV.out.frozen 0;have xf1:=HV.out.frozen 1;have HBS0:=HBS;go_simp;obtain ⟨wm,hwm⟩:=exq ((wn.setCell ⟨gq,0,none⟩ (.slice F1 k1 s1)).setCell ⟨gq,1,none⟩ (.slice F2 k2 s2));have hgn:w.heap.size + 1≠gq:=by omega
    have HBS:=qz (show Sr18 w S A0 A1 A2 A3 A4 n0 n1 n2 n3 n4 c0 c1 c2 c3 c4 sq (some ⟨ga,oa,none⟩) l wm by rw [<- hwm]; exact HBS0.out.put (by omega) HV.out _ _);have HR:=qz (show Qn18 wm w.heap.size _ F1 k1 s1 F2 k2 s2 by rw [<- hwm]; exact HR.out.put HV.out _ _)
    have HO:=qz (show Blk wm (w.heap.size + 1) 35 _ by rw [<- hwm]; exact (HO.out.far hgn _).far hgn _);have HV:=qz (show Blk wm gq 35 _ by rw [<- hwm]; exact put_Q HV.out (.slice F1 k1 s1) (.slice F2 k2 s2));rw [hwm];clear hwm hgn x0 x1 xf0 xf1 HBS0;obtain ⟨wn,hwn⟩:∃ W,W = wm:=⟨_,rfl⟩
    subst hwn;refine koq hK HBS.out (fun hHeld=>?_);clear hK K;refine wpAnyH_done (by kernel_rfl) ?_ _;clear hHeld;have HQN:Hid (Sm18q w gq (tsum18 wT l (k + 1)) wn):=qz ⟨HO.out,F1,k1,s1,F2,k2,s2,HV.out,HR.out.congr HNX.out.symm⟩;have HN:=HBS;clear HXN HTJ HBS HO HV HR HSX HSY HNX;go_wp2_with fail;go_roundw
    case rel => exact ⟨k + 1,by go_num,by omega,HN,HQN⟩
    case measure => simp [intOf]; omega
   ·
    skip;have HBS0:=HBS;go_simp;refine (HTJ.out _ HBS0.out.b.b).mono ?_;rintro e wn ⟨E1,j1,o1,E2,j2,o2,rfl,hx,hy,hb⟩;have HBS:=qz (HBS0.out.step hb);have HO:=qz (HO.out.below hb HO.out.lt);have HV:=qz (HV.out.below hb HV.out.lt);have HN:=qz (HN.out.below hb);have HT:Hid (Qn18 wn _ (wT j) E1 j1 o1 E2 j2 o2):=qz ⟨hx,hy⟩;clear hb HBS0 hx hy
    refine koq hK HBS.out (fun hHeld=>?_);clear hK K;refine rdy 0 (fun K hK => ?_);have p0:=HV.out.cell 0;have p1:=HV.out.cell 1;go_simp;refine koq hK HBS.out (fun hHeld=>?_);clear hK K;refine rdy 7 (fun K hK => ?_);have HBS0:=HBS;go_simp;refine (add18_q wn HN.out HT.out HSX.out HSY.out).mono ?_;rintro e wn ⟨F1,k1,s1,F2,k2,s2,rfl,hx,hy,hb⟩
    have HBS:=qz (HBS0.out.step hb);have HO:=qz (HO.out.below hb HO.out.lt);have HV:=qz (HV.out.below hb HV.out.lt);have hls:=HBS0.out.b.b.b.size;have HR:Hid (Qn18 wn w.heap.size (tsum18 wT l k + wT j) F1 k1 s1 F2 k2 s2):=qz (qn18_of hx hy hls);clear hls;clear hb HBS0 hx hy HT HN;refine koq hK HBS.out (fun hHeld=>?_);clear hK K
    refine rdy 8 (fun K hK => ?_);have x0:=HV.out.cell 0;have x1:=HV.out.cell 1;have xf0:=HV.out.frozen 0;have xf1:=HV.out.frozen 1;have HBS0:=HBS;go_simp;obtain ⟨wm,hwm⟩:=exq ((wn.setCell ⟨gq,0,none⟩ (.slice F1 k1 s1)).setCell ⟨gq,1,none⟩ (.slice F2 k2 s2));have hgn:w.heap.size + 1≠gq:=by omega
    have HBS:=qz (show Sr18 w S A0 A1 A2 A3 A4 n0 n1 n2 n3 n4 c0 c1 c2 c3 c4 sq (some ⟨ga,oa,none⟩) l wm by rw [<- hwm]; exact HBS0.out.put (by omega) HV.out _ _);have HR:=qz (show Qn18 wm w.heap.size _ F1 k1 s1 F2 k2 s2 by rw [<- hwm]; exact HR.out.put HV.out _ _)
    have HO:=qz (show Blk wm (w.heap.size + 1) 35 _ by rw [<- hwm]; exact (HO.out.far hgn _).far hgn _);have HV:=qz (show Blk wm gq 35 _ by rw [<- hwm]; exact put_Q HV.out (.slice F1 k1 s1) (.slice F2 k2 s2));rw [hwm];clear hwm hgn x0 x1 xf0 xf1 HBS0;obtain ⟨wn,hwn⟩:∃ W,W = wm:=⟨_,rfl⟩
    subst hwn;refine koq hK HBS.out (fun hHeld=>?_);clear hK K;refine wpAnyH_done (by kernel_rfl) ?_ _;clear hHeld;have HQN:Hid (Sm18q w gq (tsum18 wT l (k + 1)) wn):=qz ⟨HO.out,F1,k1,s1,F2,k2,s2,HV.out,HR.out.congr HNX.out.symm⟩;have HN:=HBS;clear HXN HTJ HBS HO HV HR HSX HSY HNX;go_wp2_with fail;go_roundw
    case rel => exact ⟨k + 1,by go_num,by omega,HN,HQN⟩
    case measure => simp [intOf]; omega
  ·
   obtain rfl:m = k:=by omega
   have i1:¬ (m:Int) < (m:Int):=by omega
   obtain ⟨ho,D1,n1',t1,D2,n2',t2,hv,hn⟩:=HQ.out;have HB:=qz HS.out.b.b.b;have HO:=qz ho;have HN:=qz hn;have v0:=hv.cell 0;have v1:=hv.cell 1;have r0:=ho.cell 0;have r1:=ho.cell 1;have f0:=ho.frozen 0;have f1:=ho.frozen 1;clear ho hv hn HQ HS HTK HSQ HST;go_wp2_with fail;have hp:=put_Q HO.out (.slice D1 n1' t1) (.slice D2 n2' t2)
   have hfin:=HN.out.put HO.out (.slice D1 n1' t1) (.slice D2 n2' t2);rw [HEQ.out]
   exact bodyPost_ret (v:=.agg #[.slice D1 n1' t1,.slice D2 n2' t2]) (by simp [results,Tryz.results30,go_sem,hp.cell 0,hp.cell 1]) rfl
    ⟨_,_,_,_,_,_,rfl,hfin.1,hfin.2,(HB.out.setCell (by show w.heap.size<=w.heap.size + 1; omega) _).setCell (by show w.heap.size<=w.heap.size + 1; omega) _⟩
theorem sumR_mono {f g:Nat->Rat}:∀ {n:Nat},(∀ k,k < n->f k<=g k)->sumR f n<=sumR g n
 | 0,_ => Rat.le_refl
 | n + 1,h => by
  have h1:=sumR_mono (n:=n) (fun k hk => h k (by omega));have h2:=h n (by omega);rw [sumR,sumR]
  grind
theorem tsum18_all {f:Nat->Bool} (w:Nat->Rat):∀ n,tsum18 w (all11 f n) (all11 f n).length = sumR (fun k => if f k = true then w k else 0) n
 | 0 => rfl
 | n + 1 => by
  have ih:=tsum18_all (f:=f) w n;rw [all11_next,sumR];by_cases h:f n = true
  · rw [if_pos h,List.length_append,List.length_singleton,tsum18,tsum18_low (Nat.le_refl _),nth15_at rfl,ih,if_pos h]
  ·
   rw [if_neg h,List.append_nil,ih,if_neg h]
   grind
theorem car19_list {S:Sv14} (hf:Fine14 S) (w:Nat->Rat) {e:Nat} (he:e < S.H.length):car19 S w e = w e + tsum18 w (bh16 S (e:Int) false) (bh16 S (e:Int) false).length:=by
 have h1:∀ x,bhb16 S (e:Int) false x = wayb (Ta16 S) x e:=fun x => by
  unfold bhb16;rw [if_neg (by decide),Int.toNat_natCast]
  cases hu:us14 usH S.H (e:Int) with
  | true => rw [Bool.true_and]
  | false =>
   rw [Bool.false_and];refine (Bool.eq_false_iff.2 (fun h => ?_)).symm;have:=(way16_to hf (wayb_yes.1 h)).2;rw [hu] at this;cases this
 unfold bh16;rw [tsum18_all,car19];have h2:=sumR_one (x:=e) (w e) S.H.length;rw [if_pos he] at h2;rw [<- h2,<- sumR_add];refine sumR_congr (fun x _ => ?_);rw [h1];by_cases hx:x = e
 ·
  subst hx;have hn:¬ wayb (Ta16 S) x x = true:=fun h => way16_ring hf x (wayb_yes.1 h)
  rw [if_pos (inc19_yes.2 (.inl rfl)),if_pos rfl,if_neg hn]
  grind
 ·
  by_cases hw:wayb (Ta16 S) x e = true
  ·
   rw [if_pos (inc19_yes.2 (.inr (wayb_yes.1 hw))),if_neg hx,if_pos hw]
   grind
  ·
   rw [if_neg (fun h => by
    rcases inc19_yes.1 h with h | h
    · exact hx h
    · exact hw (wayb_yes.2 h)),if_neg hx,if_neg hw]
   grind
theorem car19_nonneg {S:Sv14} {w:Nat->Rat} (hw:∀ x,0<=w x) (e:Nat):0<=car19 S w e:=sumR18_pos (fun x _ => by
 split
 · exact hw x
 · exact Rat.le_refl)
theorem car19_le {S:Sv14} {w:Nat->Rat} (hw:∀ x,0<=w x) (e:Nat):car19 S w e<=sumR w S.H.length:=sumR_mono (fun x _ => by
 split
 · exact Rat.le_refl
 · exact hw x)
theorem tsum18_up {f:Nat->Rat} {l:List Nat} (h:∀ k,0<=f k):∀ {i j:Nat},i<=j->tsum18 f l i<=tsum18 f l j
 | i,0,hij => by
          obtain rfl:i = 0:=by omega
          exact Rat.le_refl
 | i,j + 1,hij => by
  rcases (show i<=j\/i = j + 1 by omega) with hl | rfl
  ·
   have h1:=tsum18_up (l:=l) h hl;have h2:=h (nth l j);rw [tsum18]
   grind
  · exact Rat.le_refl
theorem Wo18.car_sq {S:Sv14} {wC wT:Nat->Rat} (h:Wo18 S wC wT) (hf:Fine14 S) :
  (∀ x,0<=th18 S wT x)/\(∀ e,Sq18 (car19 S (th18 S wT) e))/\∀ e i,e < S.H.length->i<=(bh16 S (e:Int) false).length->Sq18 (th18 S wT e + tsum18 (th18 S wT) (bh16 S (e:Int) false) i):=by
 obtain ⟨hc,ht⟩:=h.small hf
 have hn:∀ x,0<=th18 S wT x:=fun x => by
  rw [th18_list];exact tsum18_nonneg (fun k => (ht k).2.1) _
 have hp:∀ x,Prt18 (pa18 S) (th18 S wT x):=fun x => by
  rw [th18_list];exact tsum18_part (fun k => (ht k).1) _
 obtain ⟨X,hX⟩:∃ X:Rat,((96 ^ 16 * 134217728:Nat):Rat) = X:=⟨_,rfl⟩
 have hb:sumR (th18 S wT) S.H.length<=X:=by
  rw [h.keeps hf];have h1:=(hc 0).2.2;rw [h.c 0,if_pos rfl,hX] at h1;exact h1
 have key:∀ {x:Rat},0<=x->Prt18 (pa18 S) x->x<=sumR (th18 S wT) S.H.length->Sq18 x:=fun {x} h0 hpx hx => by
  have h1:=qr18_rt h0
  have h2:=fit18 hf h1.1 h1.2 hpx 1 (by omega) (by
   rw [hX];simp
   grind)
  exact ⟨h0,lt36_18 h2.1,lt36_18 h2.2⟩
 have hpc:∀ e,Prt18 (pa18 S) (car19 S (th18 S wT) e):=fun e => Prt18.sum (fun k _ => by
  split
  · exact hp k
  · exact Prt18.zero _)
 refine ⟨hn,fun e => key (car19_nonneg hn e) (hpc e) (car19_le hn e),fun e i he hi => ?_⟩;have h1:=car19_list hf (th18 S wT) he;have h2:=tsum18_up (l:=bh16 S (e:Int) false) hn hi;have h3:=car19_le (S:=S) hn e;have h4:=hn e;have h5:=tsum18_nonneg (l:=bh16 S (e:Int) false) hn i;exact key (by grind) ((hp e).add (tsum18_part hp i)) (by grind)
theorem th18_unused {S:Sv14} (hf:Fine14 S) {wT:Nat->Rat} {i:Nat} (hu:us14 usH S.H (i:Int) = false):th18 S wT i = 0:=by
 rw [th18_ofs hf.2.2.2.2.1];unfold ofs15;rw [if_neg (by rw [hu]; decide)];rfl
end
end Go.Proofs.YtkdmnlihpebbkaaGreat
