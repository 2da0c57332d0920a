import Derived.Test.YtkdmnlihpebbkaaGreatCT20
set_option linter.all false
set_option maxHeartbeats 8000000
namespace Go.Proofs.YtkdmnlihpebbkaaGreat
section
open Go.RowKit
set_option maxRecDepth 100000
def Fa17 (L:Nat) (A:Option Addr) (xs:List Nat):Prop:=xs≠[]->∃ b o,A = some ⟨b,o,none⟩/\L<=b
theorem Fa17.more {L L':Nat} {A:Option Addr} {xs:List Nat} (h:Fa17 L A xs) (hL:L'<=L):Fa17 L' A xs:=fun hx => by
 obtain ⟨b,o,h1,h2⟩:=h hx;exact ⟨b,o,h1,by omega⟩
theorem Fa17.of_own {w:World} {L n c:Nat} {A:Option Addr} {xs:List Nat} (h:w.ownsRow L 3 1 (.slice A n c) n (ints xs)) (hl:xs.length = n):Fa17 L A xs:=fun hx => by
 have hpos:0 < xs.length:=List.length_pos_iff.2 hx;rcases h.2 with ⟨_,h0⟩ | ⟨g,cap,cur,hv,hg,_,_⟩
 · omega
 ·
  injection hv with hA
  exact ⟨g,0,hA,hg⟩
def RetO17 (w:World) (xs:List Nat) (e:Ending) (w':World):Prop:=∃ A c,e = .returned (.slice A xs.length c)/\Rd w' w'.heap.size A xs/\Fa17 w.heap.size A xs/\Below w.heap.size w w'
def RetF17 (B:Nat) (w:World) (ys:List Nat) (e:Ending) (w':World):Prop:=∃ A c,e = .returned (.slice A ys.length c)/\Rd w' w'.heap.size A ys/\Fa17 B A ys/\Below B w w'
theorem del17 (A:Option Addr) (xs:List Nat) (n c gx B:Nat) (w:World) (hl:xs.length = n) (ho:w.ownsRow B 3 1 (.slice A n c) n (ints xs)) (hn:n<=1000000) (hB:B<=w.heap.size) (p:Nat->Bool)
  (hcl:∀ W,Below B w W->∀ x,x∈xs->Calls Tryz.prog 103 #[.int .i64 ((x:Nat):Int),.pointer (some ⟨gx,0,none⟩)] W fun e w' => e = .returned (.bool (p x))/\Below W.heap.size W w') :
  Calls Tryz.prog 102 #[.slice A n c,.func (.func 103) #[] #[.pointer (some ⟨gx,0,none⟩)]] w (RetF17 B w (xs.filter (fun x => !p x))):=by
 have HP:Hid (RetF17 B w (xs.filter (fun x => !p x)) = fun e w' => ∃ A c,e = .returned (.slice A (xs.filter (fun x => !p x)).length c)/\Rd w' w'.heap.size A (xs.filter (fun x => !p x))/\Fa17 B A (xs.filter (fun x => !p x))/\Below B w w'):=qz rfl
 have HI:=qz (idx15a A xs n c gx w.heap.size w hl (rd15_own ho hl) hn (Nat.le_refl _) p (fun W hW => hcl W (hW.mono hB)));have HL:=qz hl;have HO:=qz ho;have HC:=qz hcl;have hcap:=own14_cap ho;clear hl ho hcl;go_enter Tryz.func102,Tryz.ntmps102;go_wp2_with fail;refine HI.out.mono ?_;rintro e w1 ⟨r,rfl,hf,hb1⟩;clear HI
 rcases hf with ⟨k,h1,rfl,h2,h3⟩ | ⟨rfl,h2⟩
 ·
  obtain ⟨g,hA,hgB⟩:∃ g,A = some ⟨g,0,none⟩/\B<=g:=by
   rcases HO.out.2 with ⟨_,h0⟩ | ⟨g,cap,cur,hv,hg,_⟩
   · omega
   ·
    injection hv with hA
    exact ⟨g,hA,hg⟩
  subst hA;have HGB:=qz hgB;have hi1:Ib13 w1 g n (nth xs):=(Ib13.of_own HO.out HL.out).below hb1 (HO.out.lt g rfl).2
  have HD0:Hid (Df15 w B g n xs p k (k + 1) w1):=qz (by
   have hk:=HL.out
   have e1:(xs.take (k + 1)).filter (fun x => !p x) = xs.take k:=by
    rw [filt15_next (by omega),filt15_head (by omega) (fun t ht => by rw [h3 t ht]; rfl),h2];simp
   refine ⟨hb1.mono hB,by rw [e1,List.length_take]; omega,nth xs,hi1,fun t ht => ?_,fun t _ _ => rfl⟩
   rw [e1,nth15_take ht])
  have e0:¬ (k:Int) = -1:=by omega
  have e1:((k:Int) == -1) = false:=by simp [e0]
  obtain ⟨j0,hj0⟩:=exq (k + 1);have hw0:IntKind.i64.wrap ((k:Int) + 1) = ((j0:Nat):Int):=by rw [IntKind.wrap_i64]; omega
  rw [hj0] at HD0;have HWD:=qz (show k < j0/\j0<=n by omega);clear hi1 h2 h3 hb1 hj0;go_wp2_with fail;go_loopw [5,6] (fun i j wr => ∃ k jj:Nat,i = .int .i64 (k:Int)/\j = .int .i64 (jj:Int)/\k < jj/\jj<=n/\Hid (Df15 w B g n xs p k jj wr)) (fun _ j _ => n - (intOf j).toNat)
  case atStart => exact ⟨k,j0,rfl,rfl,HWD.out.1,HWD.out.2,HD0⟩
  case round =>
   clear HD0 HWD h1;obtain ⟨k,jj,rfl,rfl,hkj,hj,HD⟩:=hrel;by_cases hjn:jj < n
   ·
    obtain ⟨h,hib,hlo,hhi⟩:=HD.out.r;have q0:=(hib.cells hjn).1;rw [hhi jj (Nat.le_refl _) hjn] at q0;obtain ⟨x,hx⟩:=exq (nth xs jj);rw [hx] at q0;obtain ⟨bp,hbp⟩:=exq (p x);have hc:=HC.out _ HD.out.b x (by rw [<- hx,nth_in (by have:=HL.out; omega)]; exact List.getElem_mem _);rw [hbp] at hc;have HCK:=qz hc
    have HX:Hid ((xs.take (jj + 1)).filter (fun x => !p x) = (xs.take jj).filter (fun x => !p x) ++ if bp then [] else [x]):=qz (by
     rw [filt15_next (by have:=HL.out; omega),hx,hbp]
     cases bp <;> rfl)
    have HIB:=qz hib;have HLO:=qz hlo;have HHI:=qz hhi;have HGW:=HIB.out.lt;have i0:(0:Int)<=(jj:Int):=by omega
    have i1:(jj:Int) < (n:Int):=by omega
    have i2:(0:Int)<=(k:Int):=by omega
    have i3:(k:Int) < (n:Int):=by omega
    clear hx hbp hc hib hlo hhi
    cases bp with
    | true =>
     go_wp2_with fail;refine HCK.out.mono ?_;rintro e w2 ⟨rfl,hb2⟩
     have HD2:Hid (Df15 w B g n xs p k (jj + 1) w2):=qz (by
      have hX:=HX.out;simp only [if_true,List.append_nil] at hX;refine ⟨HD.out.b.trans (hb2.mono (by have:=HD.out.b.size; omega)),by rw [hX]; exact HD.out.l,h,HIB.out.below hb2 HGW,?_,fun t h1 h2 => HHI.out t (by omega) h2⟩;rw [hX]
      exact HLO.out)
     clear HCK hb2 HIB HLO HHI HX HD;go_wp2_with fail;go_roundw
     case rel => exact ⟨k,jj + 1,rfl,by go_num,by omega,by omega,HD2⟩
     case measure => simp [intOf]; omega
    | false =>
     go_wp2_with fail;refine HCK.out.mono ?_;rintro e w2 ⟨rfl,hb2⟩;have hi2:=HIB.out.below hb2 HGW;have f2:=(hi2.cells (k:=k) (by omega)).2;have c2:=(hi2.cells (k:=k) (by omega)).1
     have HD2:Hid (Df15 w B g n xs p (k + 1) (jj + 1) (w2.setCell ⟨g,k,none⟩ (.int .i64 (x:Int)))):=qz (by
      have hX:=HX.out;simp only [Bool.false_eq_true,if_false] at hX;refine ⟨(HD.out.b.trans (hb2.mono (by have:=HD.out.b.size; omega))).setCell hgB _,by rw [hX,List.length_append,HD.out.l]; rfl,upd h k x,hi2.put (by omega) x,fun t ht => ?_,fun t h1 h2 => ?_⟩
      ·
       rw [hX];by_cases htk:t = k
       ·
        subst htk;rw [upd_at,nth15_at HD.out.l]
       ·
        rw [upd_far _ _ htk,nth15_low (by rw [HD.out.l]; omega)];exact HLO.out t (by omega)
      ·
       rw [upd_far _ _ (by omega)]
       exact HHI.out t (by omega) h2)
     clear HCK hb2 HIB HLO HHI HX HD hi2;go_wp2_with fail;go_roundw
     case rel => exact ⟨k + 1,jj + 1,by go_num,by go_num,by omega,by omega,HD2⟩
     case measure => simp [intOf]; omega
   ·
    obtain rfl:jj = n:=by omega
    have i1:¬ (jj:Int) < (jj:Int):=by omega
    obtain ⟨h,hib,hlo,_⟩:=HD.out.r;have hfl:=HD.out.l;have htk:xs.take jj = xs:=List.take_of_length_le (by have:=HL.out; omega);rw [htk] at hlo hfl;obtain ⟨B',hcut,hB'⟩:=cutb15 g jj c k (by omega) hcap;obtain ⟨w3,hclr,hi3,hg3⟩:=clear15 hib (k:=k) (by omega) B' (c - k) hB'
    have HB3:Hid (Below B w w3):=qz (HD.out.b.grown hg3 (by have:=HD.out.b.size; omega) (fun r hr => by cases hr; exact hgB))
    have HRD:Hid (Rd w3 w3.heap.size (some ⟨g,0,none⟩) (xs.filter (fun x => !p x))):=qz (by
     have h5:=hi3;rw [<- hfl] at h5
     exact h5.rd (fun t ht => (hlo t (by omega)).symm))
    have HFL:=qz hfl;have i5:(0:Int)<=(k:Int):=by omega
    have i6:(k:Int)<=(c:Int):=by omega
    clear hib hlo hfl htk hi3 hg3 HD hB';go_wp2_with fail;go_ret;rw [HP.out];exact ⟨some ⟨g,0,none⟩,c,by rw [HFL.out]; rfl,HRD.out,fun _ => ⟨g,0,rfl,HGB.out⟩,HB3.out⟩
 ·
  have HF:Hid (xs.filter (fun x => !p x) = xs):=qz (by
   rw [List.filter_eq_self];intro x hx;obtain ⟨t,ht,rfl⟩:=List.getElem_of_mem hx;rw [<- nth_in ht,h2 t (by have:=HL.out; omega)]
   rfl)
  have HR:Hid (Rd w1 w1.heap.size A xs):=qz ((rd15_own HO.out HL.out).below hb1 (Nat.le_refl _) |>.more hb1.size);have HB1:=qz (hb1.mono hB);clear h2 hb1;go_wp2_with fail;go_ret;rw [HP.out,HF.out];exact ⟨A,c,by rw [HL.out]; rfl,HR.out,Fa17.of_own HO.out HL.out,HB1.out⟩
theorem order17 (v:Value) (S:Sv14) (os:List Nat) (w:World) (h:St14 w v S) (hd:Done13 (Ca15 S) S.C.length os) (hf:os.length = S.C.length) :
  Calls Tryz.prog 91 #[v] w (RetO17 w (ord15 S os)):=by
 obtain ⟨A0,A1,A2,A3,A4,n0,n1,n2,n3,n4,c0,c1,c2,c3,c4,sq,rfl,hs⟩:=h;have HP:Hid (RetO17 w (ord15 S os) = fun e w' => ∃ A c,e = .returned (.slice A (ord15 S os).length c)/\Rd w' w'.heap.size A (ord15 S os)/\Fa17 w.heap.size A (ord15 S os)/\Below w.heap.size w w'):=qz rfl
 have HCA:=qz (fun W (h:Bx14 w S A0 A1 A2 A3 A4 n0 n1 n2 n3 n4 c0 c1 c2 c3 c4 sq W) => coinArrows14 _ S W h.st);have hl0:=hs.l0;have hm0:=hs.m0;have HLA:Hid ((cArr14 S S.T.length).length<=1000000):=qz (by have:=cArr14_len S S.T.length; have:=hs.l1; have:=hs.m1; omega)
 have HOR:=qz (fun W Ad c (hr:Aq W W.heap.size Ad (cArr14 S S.T.length)) => dorder13_any (n0:Int) n0 (by unfold nn13; omega) Ad _ _ c os W rfl hr HLA.out (by rw [<- hl0]; exact hd));have hfn:decide (os.length = n0) = true:=by rw [<- hl0]; simpa using hf
 have HFN:=qz (show os.length = n0 by rw [<- hl0]; exact hf);have hx0:=Bx14.new hs;have hxn:=hx0.step (Below.refl _ _).drew;obtain ⟨W1,hW1⟩:=exq (w.alloc (.cells #[.slice A0 n0 c0,.slice A1 n1 c1,.slice A2 n2 c2,.slice A3 n3 c3,.slice A4 n4 c4,.int .i64 sq] 28));rw [hW1] at hx0 hxn;have HXN:=qz hxn;clear hs hx0 hxn hd hf hl0;go_enter Tryz.func91,Tryz.ntmps91
 obtain ⟨wn,hwn⟩:=exq W1.drew;rw [hwn] at HXN;go_wp2_with fail;refine wp_region_held_drew (S:=Bx14 w S A0 A1 A2 A3 A4 n0 n1 n2 n3 n4 c0 c1 c2 c3 c4 sq) (by kernel_rfl) (by rw [hwn]; exact HXN.out) (fun hHeld => ?_);rw [hwn] at hHeld ⊢;clear hwn;have HBS:=HXN;refine tkq 0 ?_;refine tk 1 (v:=?_) (fun W hS => ?_) ?_;rotate_left
 ·
  try dsimp only at hS
  have z0:=hS.x.cell 0;go_simp
  try with_reducible rfl
 try simp only [Act.put,pt1,pt2,pt3]
 refine tkq 2 ?_;refine tk 3 (v:=?_) (fun W hS => ?_) ?_;rotate_left
 ·
  try dsimp only at hS
  obtain ⟨z0,z1,z2,z3,z4,z5⟩:=ce6 hS.x;go_simp
  try with_reducible rfl
 try simp only [Act.put,pt1,pt2,pt3]
 refine rdy 4 (fun K hK => ?_);have HBS0:=HBS;go_simp;refine (HCA.out _ HBS0.out).mono ?_;rintro e wn ⟨Ac,cc,rfl,hqa,hb⟩;have HBS:=qz (HBS0.out.step hb);have HQA:=qz hqa;clear hqa;clear hb HBS0;refine koq hK HBS.out (fun hHeld=>?_);clear hK K;refine rdy 5 (fun K hK => ?_);have HBS0:=HBS;go_simp;refine (HOR.out _ Ac cc HQA.out).mono ?_
 rintro e wm ⟨vo,rfl,ho,_,hb⟩;obtain ⟨WO,hWO⟩:∃ W,W = wn:=⟨_,rfl⟩
 rw [<- hWO] at HBS0 hb ho;have HBS:=qz (HBS0.out.step hb);have HQO:=qz (ho HFN.out);have HB5:=qz hb;have HBO:=qz HBS0.out.b;have HX5:=HBS0;clear hb HBS0 HQA ho hWO;refine koq hK HBS.out (fun hHeld=>?_);clear hK K;refine tkq 6 ?_;refine tkq 7 ?_;refine tkq 8 ?_;refine rdy 9 (fun K hK => ?_);go_simp;refine koq hK HBS.out (fun hHeld=>?_);clear hK K
 refine rdy 10 (fun K hK => ?_);go_simp;refine koq hK HBS.out (fun hHeld=>?_);clear hK K;refine wpAnyH_done (by kernel_rfl) ?_ _;clear hHeld;obtain ⟨Ao,co,rfl,hown⟩:=HQO.out;have HOW:=qz hown;clear hown
 have HDL:=qz (del17 Ao os os.length co w.heap.size WO.heap.size wm rfl HOW.out (by have:=HFN.out; omega) HB5.out.size (fun (x:Nat) => !us14 usC S.C (x:Int)) (fun W hW x _ => ordc15 (x:Int) w.heap.size S A0 A1 A2 A3 A4 n0 n1 n2 n3 n4 c0 c1 c2 c3 c4 sq W _ (HX5.out.x.below (HB5.out.trans hW) HX5.out.x.lt) (HX5.out.s.step (HB5.out.trans hW)) rfl))
 clear HX5 HBS;go_wp2_with fail;refine HDL.out.mono ?_;rintro e w7 ⟨Af,cf,rfl,hrd,hfa,hb7⟩;have HB7:=qz (HBO.out.trans ((HB5.out.trans hb7).mono HBO.out.size));have HF:Hid (os.filter (fun (x:Nat) => !!us14 usC S.C (x:Int)) = ord15 S os):=qz (by simp [ord15]);rw [HF.out] at hrd hfa ⊢;have HFA:=qz (hfa.more HBO.out.size);clear hfa;have HRD:=qz hrd
 clear hrd hb7 HDL;go_wp2_with fail;go_ret;rw [HP.out];exact ⟨Af,cf,rfl,HRD.out,HFA.out,HB7.out⟩
theorem tickets17i (v:Value) (S:Sv14) (gc:Nat) (w:World) (h:St14 w v S) (p:Tk14->Bool)
  (hcl:∀ W,Below w.heap.size w W->∀ xu xc xa xk xt xo,Calls Tryz.prog 125 #[.agg #[.bool xu,.int .i64 xc,.int .i64 xa,.int .i64 xk,.int .i64 xt,.bool xo],.pointer (some ⟨gc,0,none⟩)] W fun e w' => e = .returned (.bool (p ⟨xu,xc,xa,xk,xt,xo⟩))/\Below W.heap.size W w') :
  Calls Tryz.prog 108 #[v,.func (.func 125) #[] #[.pointer (some ⟨gc,0,none⟩)]] w (RetO17 w (tks15 S p S.T.length)):=by
 obtain ⟨A0,A1,A2,A3,A4,n0,n1,n2,n3,n4,c0,c1,c2,c3,c4,sq,rfl,hs⟩:=h;have HP:Hid (RetO17 w (tks15 S p S.T.length) = fun e w' => ∃ A c,e = .returned (.slice A (tks15 S p n1).length c)/\Rd w' w'.heap.size A (tks15 S p n1)/\Fa17 w.heap.size A (tks15 S p n1)/\Below w.heap.size w w'):=qz (by rw [hs.l1]; rfl)
 have HX0:Hid (Ti15 w (w.heap.size + 1) S A0 A1 A2 A3 A4 n0 n1 n2 n3 n4 c0 c1 c2 c3 c4 sq none 0 0 (tks15 S p 0) (w.alloc (.cells #[.slice A0 n0 c0,.slice A1 n1 c1,.slice A2 n2 c2,.slice A3 n3 c3,.slice A4 n4 c4,.int .i64 sq] 28))):=qz (Ti15.start hs (Bx14.new hs) (by omega) (by simp));have HC:=qz hcl;have HL1:=qz hs.l1;have hnb:=hs.m1
 have t1:=HX0.out.b.x.cell 1;clear hs hcl;go_enter Tryz.func108,Tryz.ntmps108;go_wp2_with fail;clear t1;go_loopw [4,10] (fun v i wr => ∃ (k:Nat) (A:Option Addr) (m c:Nat),v = .slice A m c/\i = .int .i64 (k:Int)/\k<=n1/\Hid (Ti15 w (w.heap.size + 1) S A0 A1 A2 A3 A4 n0 n1 n2 n3 n4 c0 c1 c2 c3 c4 sq A m c (tks15 S p k) wr)) (fun _ i _ => n1 - (intOf i).toNat)
 case atStart => exact ⟨0,none,0,0,rfl,rfl,by omega,HX0⟩
 case round =>
  obtain ⟨k,A,m,c,rfl,rfl,hk,HW⟩:=hrel;by_cases hkn:k < n1
  ·
   obtain ⟨a,of,hA,hab,hq⟩:=Lq.at_ len14T (by omega) HW.out.b.s.r1 (show k < S.T.length by have:=HL1.out; omega);obtain ⟨x,hx⟩:=exq (gt14 S.T k);rw [hx] at hq;obtain ⟨xu,xc,xa,xk,xt,xo⟩:=x;have e0:wr.cell? ⟨a,of + k * 6,none⟩ = some (.bool xu):=hq 0 _ rfl;have e1:wr.cell? ⟨a,of + k * 6 + 1,none⟩ = some (.int .i64 xc):=hq 1 _ rfl
   have e2:wr.cell? ⟨a,of + k * 6 + 2,none⟩ = some (.int .i64 xa):=hq 2 _ rfl;have e3:wr.cell? ⟨a,of + k * 6 + 3,none⟩ = some (.int .i64 xk):=hq 3 _ rfl;have e4:wr.cell? ⟨a,of + k * 6 + 4,none⟩ = some (.int .i64 xt):=hq 4 _ rfl;have e5:wr.cell? ⟨a,of + k * 6 + 5,none⟩ = some (.bool xo):=hq 5 _ rfl;have i0:(0:Int)<=(k:Int):=by omega
   have i1:(k:Int) < (n1:Int):=by omega
   have HV:=qz (Ti15.step HW.out (b1' wr (.cells #[.bool xu,.int .i64 xc,.int .i64 xa,.int .i64 xk,.int .i64 xt,.bool xo] 55)));have hv:=Blk.new wr 55 #[.bool xu,.int .i64 xc,.int .i64 xa,.int .i64 xk,.int .i64 xt,.bool xo];obtain ⟨v0,v1,v2,v3,v4,v5⟩:=ce6 hv;have HVB:=qz hv
   have HNX:Hid (tks15 S p (k + 1) = tks15 S p k ++ if (xu && p ⟨xu,xc,xa,xk,xt,xo⟩) then [k] else []):=qz (by
    have h:=all11_next (fun j => (gt14 S.T j).u && p (gt14 S.T j)) k;rw [hx] at h
    exact h)
   obtain ⟨X,hX⟩:=exq (wr.alloc (.cells #[.bool xu,.int .i64 xc,.int .i64 xa,.int .i64 xk,.int .i64 xt,.bool xo] 55));rw [hX] at HV HVB v0 v1 v2 v3 v4 v5;have hmk:m<=k:=by rw [<- HW.out.l]; exact tks15_len S p k
   clear hv hq hx hab;subst hA
   cases xu with
   | false =>
    have HN:=qz (HV.out.congr (ys:=tks15 S p (k + 1)) (by rw [HNX.out]; simp));go_wp2_with fail;go_roundw
    case rel => exact ⟨k + 1,A,m,c,rfl,by go_num,by omega,HN⟩
    case measure => simp [intOf]; omega
   | true =>
    obtain ⟨bp,hbp⟩:=exq (p ⟨true,xc,xa,xk,xt,xo⟩);have hc:=HC.out X HV.out.b.b true xc xa xk xt xo;rw [hbp] at hc HNX;have HCK:=qz hc;clear hbp hc
    cases bp with
    | false =>
     go_wp2_with fail;refine HCK.out.mono ?_;rintro e w2 ⟨rfl,hb2⟩;have HN:=qz ((HV.out.step hb2).congr (ys:=tks15 S p (k + 1)) (by rw [HNX.out]; simp));clear HCK hb2;go_wp2_with fail;go_roundw
     case rel => exact ⟨k + 1,A,m,c,rfl,by go_num,by omega,HN⟩
     case measure => simp [intOf]; omega
    | true =>
     go_wp2_with fail;refine HCK.out.mono ?_;rintro e w2 ⟨rfl,hb2⟩;obtain ⟨Az,cz,W2,hrun,har,_⟩:=(HV.out.step hb2).push k (by omega);have HRUN:=qz hrun;have HAR:=qz (har.congr (ys:=tks15 S p (k + 1)) (by rw [HNX.out]; simp));clear HCK hb2 hrun har
     go_wp2_with (at_builtin; go_loud (refine wpList_append_14 _ rfl (.tmp 22) (.tmp 24) 26 rfl _ _ _ _ rfl rfl HRUN.out ?_));go_roundw
     case rel => exact ⟨k + 1,Az,m + 1,cz,rfl,by go_num,by omega,HAR⟩
     case measure => simp [intOf]; omega
  ·
   obtain rfl:k = n1:=by omega
   have HL:=qz HW.out.l;have h1:¬ (k:Int) < (k:Int):=by omega
   go_wp2_with fail;go_ret;rw [HP.out];exact ⟨A,c,by rw [HL.out]; rfl,HW.out.rd,(Fa17.of_own HW.out.o HW.out.l).more (by omega),HW.out.b.b⟩
theorem issued17 (v:Value) (S:Sv14) (c:Int) (w:World) (h:St14 w v S) :
  Calls Tryz.prog 106 #[v,.int .i64 c] w (RetO17 w (isd15 S c)):=by
 obtain ⟨A0,A1,A2,A3,A4,n0,n1,n2,n3,n4,c0,c1,c2,c3,c4,sq,rfl,hs⟩:=h;have hx0:=Bx14.new hs;have hxn:=hx0.step (Below.refl _ _).drew;obtain ⟨W1,hW1⟩:=exq (w.alloc (.cells #[.slice A0 n0 c0,.slice A1 n1 c1,.slice A2 n2 c2,.slice A3 n3 c3,.slice A4 n4 c4,.int .i64 sq] 28));rw [hW1] at hx0 hxn;obtain ⟨bc,hbc⟩:=exq (us14 usC S.C c)
 have hb2:=b1' W1 (.cells #[.int .i64 c] 3);have hk2:=Blk.new W1 3 #[.int .i64 c];have hx2:=hx0.step hb2;have hz1:W1.heap.size = w.heap.size + 1:=by rw [<- hW1]; simp
 rw [hz1] at hk2;obtain ⟨W2,hW2⟩:=exq (W1.alloc (.cells #[.int .i64 c] 3));rw [hW2] at hb2 hk2 hx2;have HCC:=qz (coin14 _ S c bc W2 hx2.st hbc);have HX2:=qz hx2;have HK2:=qz hk2;obtain ⟨x0,x1,x2,x3,x4,x5⟩:=ce6 hx2.x;have k0:=hk2.cell 0
 have HP:Hid (RetO17 w (isd15 S c) = fun e w' => ∃ A c2,e = .returned (.slice A (isd15 S c).length c2)/\Rd w' w'.heap.size A (isd15 S c)/\Fa17 w.heap.size A (isd15 S c)/\Below w.heap.size w w'):=qz rfl;have HE:Hid (isd15 S c = if bc then tks15 S (isw15 c) S.T.length else []):=qz (by rw [isd15,hbc]);clear hs hx0 hxn hbc hb2 hk2 hx2
 go_enter Tryz.func106,Tryz.ntmps106;go_wp2_with fail;refine HCC.out.mono ?_;rintro e w3 ⟨rfl,hb3⟩;have HX3:=qz (HX2.out.step hb3);have hk3:=HK2.out.below hb3 HK2.out.lt;have HK3:=qz hk3;clear HCC hb3
 cases bc with
 | false =>
  go_wp2_with fail;go_ret;rw [HP.out,HE.out]
  exact ⟨none,0,rfl,fun h => absurd rfl h,fun h => absurd rfl h,HX3.out.b⟩
 | true =>
  obtain ⟨y0,y1,y2,y3,y4,y5⟩:=ce6 HX3.out.x;have HT:=qz (tickets17i _ S (w.heap.size + 1) w3 HX3.out.st (isw15 c) (fun W hW xu xc xa xk xt xo => isc15 xu xc xa xk xt xo _ c W ((HK3.out.below hW HK3.out.lt).cell 0)));go_wp2_with fail;refine HT.out.mono ?_;rintro e w4 ⟨A,c2,rfl,hr4,hfa4,hb4⟩;have HFA:=qz (hfa4.more HX3.out.b.size);have HR4:=qz hr4
  have HB4:=qz (HX3.out.b.trans (hb4.mono HX3.out.b.size));clear HT hr4 hfa4 hb4;go_wp2_with fail;go_ret;rw [HP.out,HE.out];exact ⟨A,c2,rfl,HR4.out,HFA.out,HB4.out⟩
def benc17 (xs:List Nat) (k:Nat):Array Value:=#[.int .i64 ((xs.length - 1 - k:Nat):Int),.int .i64 ((nth xs (xs.length - 1 - k):Nat):Int)]
def bkeep17 (Bs:Nat) (A:Option Addr) (xs:List Nat) (_:Nat) (p:Addr):Prop:=p.block = Bs\/xs≠[]/\∃ q,A = some q/\p.block = q.block
theorem back17_goes (F:Fence) (n:Nat) (hf:F.fn 130) (hro:F.round = none) (hn:1<=n) (Bs N c:Nat) (A:Option Addr) (xs:List Nat) (w:World) (hl:xs.length = N) (hi:Rd w w.heap.size A xs) (hN:N<=1000000)
  (hb:w.cell? ⟨Bs,0,none⟩ = some (.slice A N c)) :
  Goes F n Tryz.prog 130 #[.pointer (some ⟨Bs,0,none⟩)] (benc17 xs) (bkeep17 Bs A xs) N w:=fun l J Jx W hW _ _ hY h0 => by
 have hBs:=World.block_lt_of_cell? w _ hb;have hb1:=(hW.cell hBs).trans hb;have HI1:=qz (hi.below hW (Nat.le_refl _));have HLX:=qz hl;have HWS:=qz hW.size;clear hb hi hl;refine callsIn_of_wp Tryz.func130 rfl hf ?_ hro
 simp only [Tryz.ntmps130,List.size_toArray,List.length_cons,List.length_nil,Nat.reduceAdd,Nat.reduceSub,Array.replicate_succ,Array.replicate_zero,List.push_toArray,List.append_toArray,List.nil_append,List.cons_append];gi_wp2
 gi_loopw [3] (fun i wr => ∃ (m:Nat) (j:Int),i = .int .i64 j/\j + 1 = (m:Int)/\m<=N/\J (N - m) wr/\wr.cell? ⟨Bs,0,none⟩ = some (.slice A N c)/\Hid (Rd wr w.heap.size A xs))
  (fun i _ => (intOf i + 1).toNat)
 case atStart =>
  exact ⟨N,_,rfl,by omega,Nat.le_refl _,by rw [Nat.sub_self]; exact h0,hb1,HI1⟩
 case round =>
  obtain ⟨m,j,rfl,hj,hm,hJ,hbx,HC⟩:=hrel;by_cases hpos:0 < m
  ·
   obtain ⟨q,rfl⟩:∃ q,m = q + 1:=⟨m - 1,by omega⟩
   obtain rfl:j = (q:Int):=by omega
   obtain ⟨gx,ox,hA,hlt,hcx⟩:=HC.out.at_ (show q < xs.length by have:=HLX.out; omega);have HAX:=qz hA;rw [hA] at hbx;have hq0:(0:Int)<=(q:Int):=by omega
   have hq1:(q:Int) < (N:Int):=by omega
   obtain ⟨fn,tmps,assign,body,hy,hR⟩:=hY (N - (q + 1)) wr (by omega) hJ;have he:N - 1 - (N - (q + 1)) = q:=by omega
   simp only [benc17,HLX.out,he] at hy;obtain ⟨xq,hxq⟩:=exq (nth xs q);rw [hxq] at hcx hy;clear hxq hA;clear he;gi_wp2;refine hR.mono ?_;rintro e W3 (⟨rfl,hJ3,hk3⟩ | ⟨rfl,hJx3⟩)
   ·
    have HS:Hid (Same (bkeep17 Bs A xs (N - (q + 1))) wr W3):=qz hk3;have HJ:=qz hJ3;clear hk3 hJ3 hJ;gi_wp2;go_roundw
    case rel =>
     exact ⟨q,_,rfl,by omega,by omega,by have:=HJ.out; rwa [show N - (q + 1) + 1 = N - q by omega] at this,by rw [HAX.out]; exact HS.out.cell _ _ (.inl rfl) hbx,qz (fun hx => by
      obtain ⟨b,o,h1,h2,h3⟩:=HC.out hx
      exact ⟨b,o,h1,h2,fun t ht => HS.out.cell _ _ (.inr ⟨hx,_,h1,rfl⟩) (h3 t ht)⟩)⟩
    case measure => first | (simp [intOf]; done) | (simp [intOf]; omega)
   ·
    gi_wp2;refine bodyPost_ret (results_none rfl _ _ _) rfl ?_;exact ⟨⟨_,rfl⟩,.inr ⟨_,by omega,hJx3⟩⟩
  ·
   obtain rfl:m = 0:=by omega
   obtain rfl:j = -1:=by omega
   have HJ:Hid (J N wr):=qz (by simpa using hJ);clear hJ;gi_wp2
   go_end0
   exact ⟨⟨_,rfl⟩,.inl HJ.out⟩
theorem bk17_trans {L g1:Nat} {r:Option Nat} {w w1 w':World} (h:Bk13 L g1 r w w1) (h':Bk13 L g1 r w1 w'):Bk13 L g1 r w w' :=
 ⟨h.below.trans h'.below,Nat.le_trans h.size h'.size,fun b hb h1 h2 => (h'.keep b (Nat.lt_of_lt_of_le hb h.size) h1 h2).trans (h.keep b hb h1 h2)⟩
theorem bk17_below {L g1:Nat} {r:Option Nat} {w w':World} (hL:L<=w.heap.size) (h:Below w.heap.size w w'):Bk13 L g1 r w w':=⟨h.mono hL,h.size,fun b hb _ _ => h.block b hb⟩
theorem bk17_set {L g1:Nat} {r:Option Nat} {w:World} {p:Addr} (hp:L<=p.block) (h:p.block = g1\/some p.block = r) (u:Value):Bk13 L g1 r w (w.setCell p u) :=
 ⟨(
  Below.refl _ _).setCell hp u,by simp [World.setCell],fun b _ h1 h2 => Below.heap_setCell w p u b (fun e => by
  subst e;rcases h with h | h
  · exact h1 h
  · exact h2 h)⟩
theorem bk17_rd {L g1:Nat} {r:Option Nat} {w w':World} (h:Bk13 L g1 r w w') {A:Option Addr} {xs:List Nat} (hr:Rd w w.heap.size A xs) (ha:∀ q,xs≠[]->A = some q->q.block≠g1/\some q.block≠r):Rd w' w'.heap.size A xs:=fun hx => by
 obtain ⟨b,o,h1,h2,h3⟩:=hr hx;have h4:=ha _ hx h1;exact ⟨b,o,h1,Nat.lt_of_lt_of_le h2 h.size,fun k hk => (World.cell?_of_block (h.keep b h2 h4.1 h4.2)).trans (h3 k hk)⟩
theorem bk17_others {L g1 g2 n1 n2:Nat} {M:Nat->Bool} {Am:Nat->Nat} {w w':World} (h:Bk13 L g1 (some g2) w w') (h1:Bb13 w g1 n1 M) (h2:Ib13 w g2 n2 Am):KeepsOthers w w' :=
 ⟨h.size,fun k o hk ho => by
  have hlt:=(Array.getElem?_eq_some_iff.1 hk).1;refine (h.keep k hlt (fun e => ?_) (fun e => ?_)).trans hk
  ·
   rw [e] at hk;obtain ⟨cs,hb,_⟩:=h1;rw [show w.heap[g1]? = _ from hb] at hk;cases hk;cases ho
  ·
   injection e with e
   rw [e] at hk;obtain ⟨cs,hb,_⟩:=h2;rw [show w.heap[g2]? = _ from hb] at hk;cases hk
   cases ho⟩
theorem Bb13.far17 {w:World} {g n:Nat} {m:Nat->Bool} (q:Bb13 w g n m) {p:Addr} (hp:g≠p.block) (u:Value):Bb13 (w.setCell p u) g n m:=by
 obtain ⟨cs,h1,h2⟩:=q;exact ⟨cs,h1.far hp u,h2⟩
theorem Bb13.lt17 {w:World} {g n:Nat} {m:Nat->Bool} (q:Bb13 w g n m):g < w.heap.size:=by
 obtain ⟨cs,h1,h2⟩:=q;exact h1.lt
theorem lives17 (v:Value) (S:Sv14) (i:Int) (w:World) (h:St14 w v S) (hf:Fine14 S) :
  Calls Tryz.prog 146 #[v,.int .i64 i] w fun e w' => e = .returned (.bool (livb17 S i))/\Below w.heap.size w w':=by
 obtain ⟨l,hl⟩:=tl16_ex hf i;rw [<- lv17_of hf hl];exact lives16 v S i l w h hf hl
theorem awake17 (A1:Option Addr) (m c1 g2 n c2:Nat) (Am:Nat->Nat) (t:Int) (w:World) (hr:Ib13 w g2 n Am) (b:Bool) (hb:aw17 n Am t = b) :
  Calls Tryz.prog 147 #[.agg #[.slice A1 m c1,.slice (some ⟨g2,0,none⟩) n c2],.int .i64 t] w fun e w' => e = .returned (.bool b)/\Below w.heap.size w w':=by
 have hk:=Blk.new w 122 #[.slice A1 m c1,.slice (some ⟨g2,0,none⟩) n c2];have hb1:=b1' w (.cells #[.slice A1 m c1,.slice (some ⟨g2,0,none⟩) n c2] 122);have x1:=hk.cell 1;by_cases h0:0<=t
 ·
  by_cases h1:t < (n:Int)
  ·
   obtain ⟨k,rfl⟩:∃ k:Nat,t = (k:Int):=⟨t.toNat,by omega⟩
   rw [aw17_in (by omega)] at hb;have q0:=((hr.below hb1 hr.lt).cells (show k < n by omega)).1;obtain ⟨z,hz⟩:=exq (Am k);rw [hz] at q0 hb;obtain ⟨W1,hW1⟩:=exq (w.alloc (.cells #[.slice A1 m c1,.slice (some ⟨g2,0,none⟩) n c2] 122));rw [hW1] at hb1 x1 q0;have HB1:=qz hb1;clear hr hz hk hb1;by_cases hz0:0 < z
   ·
    obtain rfl:b = true:=by rw [<- hb]; simp [hz0]
    have z1:(0:Int) < (z:Int):=by omega
    have HZ:=qz hz0;clear hb;go_enter Tryz.func147,Tryz.ntmps147;go_wp2_with fail;go_ret;exact ⟨by simp [HZ.out],HB1.out⟩
   ·
    obtain rfl:b = false:=by rw [<- hb]; simp [hz0]
    obtain rfl:z = 0:=by omega
    clear hb hz0;go_enter Tryz.func147,Tryz.ntmps147;go_wp2_with fail;go_ret;exact ⟨rfl,HB1.out⟩
  ·
   obtain rfl:false = b:=by rw [<- hb,aw17_out (fun h => h1 h.2)]
   have HB1:=qz hb1;clear hr hb hk hb1;go_enter Tryz.func147,Tryz.ntmps147;go_wp2_with fail;go_ret;exact ⟨rfl,HB1.out⟩
 ·
  obtain rfl:false = b:=by rw [<- hb,aw17_out (fun h => h0 h.1)]
  have HB1:=qz hb1;clear hr hb hk hb1 x1;go_enter Tryz.func147,Tryz.ntmps147;go_wp2_with fail;go_ret;exact ⟨rfl,HB1.out⟩
theorem lets17 (S:Sv14) (A0 A1 A2 A3 A4:Option Addr) (n0 n1 n2 n3 n4 c0 c1 c2 c3 c4:Nat) (sq:Int) (B1:Option Addr) (m d1 g2 n d2:Nat) (Am:Nat->Nat) (xu:Bool) (xc xa xk xt:Int) (xo:Bool) (w:World) (hs:SA14 w S A0 A1 A2 A3 A4 n0 n1 n2 n3 n4 c0 c1 c2 c3 c4 sq) (hf:Fine14 S) (hr:Ib13 w g2 n Am) :
  Calls Tryz.prog 131 #[.agg #[.slice B1 m d1,.slice (some ⟨g2,0,none⟩) n d2],(.agg #[.slice A0 n0 c0,.slice A1 n1 c1,.slice A2 n2 c2,.slice A3 n3 c3,.slice A4 n4 c4,.int .i64 sq]),.agg #[.bool xu,.int .i64 xc,.int .i64 xa,.int .i64 xk,.int .i64 xt,.bool xo]] w fun e w' => e = .returned (.bool (lts17 S n Am xk xt))/\Below w.heap.size w w':=by
 have hb1:=b1' w (.cells #[.slice B1 m d1,.slice (some ⟨g2,0,none⟩) n d2] 122);have hk1:=Blk.new w 122 #[.slice B1 m d1,.slice (some ⟨g2,0,none⟩) n d2];have hz1:(w.alloc (.cells #[.slice B1 m d1,.slice (some ⟨g2,0,none⟩) n d2] 122)).heap.size = w.heap.size + 1:=by simp
 obtain ⟨wa,hwa⟩:=exq (w.alloc (.cells #[.slice B1 m d1,.slice (some ⟨g2,0,none⟩) n d2] 122));rw [hwa] at hb1 hk1 hz1;have hb2:=b1' wa (.cells #[.slice A0 n0 c0,.slice A1 n1 c1,.slice A2 n2 c2,.slice A3 n3 c3,.slice A4 n4 c4,.int .i64 sq] 28)
 have hk2:=Blk.new wa 28 #[.slice A0 n0 c0,.slice A1 n1 c1,.slice A2 n2 c2,.slice A3 n3 c3,.slice A4 n4 c4,.int .i64 sq];have hz2:(wa.alloc (.cells #[.slice A0 n0 c0,.slice A1 n1 c1,.slice A2 n2 c2,.slice A3 n3 c3,.slice A4 n4 c4,.int .i64 sq] 28)).heap.size = w.heap.size + 2:=by simp [hz1]
 rw [hz1] at hk2;obtain ⟨wb,hwb⟩:=exq (wa.alloc (.cells #[.slice A0 n0 c0,.slice A1 n1 c1,.slice A2 n2 c2,.slice A3 n3 c3,.slice A4 n4 c4,.int .i64 sq] 28));rw [hwb] at hb2 hk2 hz2;have hb3:=b1' wb (.cells #[.bool xu,.int .i64 xc,.int .i64 xa,.int .i64 xk,.int .i64 xt,.bool xo] 55)
 have hk3:=Blk.new wb 55 #[.bool xu,.int .i64 xc,.int .i64 xa,.int .i64 xk,.int .i64 xt,.bool xo];rw [hz2] at hk3;obtain ⟨wc,hwc⟩:=exq (wb.alloc (.cells #[.bool xu,.int .i64 xc,.int .i64 xa,.int .i64 xk,.int .i64 xt,.bool xo] 55));rw [hwc] at hb3 hk3;have hg2:=hb1.trans (hb2.mono hb1.size);have hg:=hg2.trans (hb3.mono hg2.size);have HB:=qz hg
 have HLV:=qz (lives17 (.agg #[.slice A0 n0 c0,.slice A1 n1 c1,.slice A2 n2 c2,.slice A3 n3 c3,.slice A4 n4 c4,.int .i64 sq]) S xt wc ⟨A0,A1,A2,A3,A4,n0,n1,n2,n3,n4,c0,c1,c2,c3,c4,sq,rfl,hs.step hg⟩ hf);have HAW:=qz (awake17 B1 m d1 g2 n d2 Am xt wc (hr.below hg hr.lt) _ rfl);have ha:=(hk1.below hb2 hk1.lt).below hb3 (by have:=hk1.lt; have:=hb2.size; omega)
 have hx:=hk2.below hb3 hk2.lt;have y0:=ha.cell 0;have y1:=ha.cell 1;obtain ⟨x0,x1,x2,x3,x4,x5⟩:=ce6 hx;have t3:=hk3.cell 3;have t4:=hk3.cell 4;clear hb1 hb2 hb3 hk1 hk2 hk3 hg2 hg ha hx hs hr hf;by_cases k1:xk = 1
 ·
  have HE:Hid (lts17 S n Am xk xt = livb17 S xt):=qz (by rw [lts17,if_pos k1]);rw [HE.out];subst k1;clear HAW y0 y1 HE;go_enter Tryz.func131,Tryz.ntmps131;go_wp2_with fail;refine HLV.out.mono ?_;rintro e w4 ⟨rfl,hb4⟩;have HB4:=qz (HB.out.trans (hb4.mono HB.out.size));clear HLV hb4;go_wp2_with fail;go_ret;exact ⟨rfl,HB4.out⟩
 ·
  have k1b:(xk == 1) = false:=by simp [k1]
  by_cases k2:xk = 2
  ·
   have HE:Hid (lts17 S n Am xk xt = aw17 n Am xt):=qz (by rw [lts17,if_neg k1,if_pos k2]);rw [HE.out];subst k2;clear HLV x0 x1 x2 x3 x4 x5 HE k1 k1b;go_enter Tryz.func131,Tryz.ntmps131;go_wp2_with fail;refine HAW.out.mono ?_;rintro e w4 ⟨rfl,hb4⟩;have HB4:=qz (HB.out.trans (hb4.mono HB.out.size));clear HAW hb4;go_wp2_with fail;go_ret;exact ⟨rfl,HB4.out⟩
  ·
   have k2b:(xk == 2) = false:=by simp [k2]
   have HE:Hid (lts17 S n Am xk xt = false):=qz (by rw [lts17,if_neg k1,if_neg k2]);rw [HE.out];clear HLV HAW x0 x1 x2 x3 x4 x5 y0 y1 HE k1 k2;go_enter Tryz.func131,Tryz.ntmps131;go_wp2_with fail;go_ret;exact ⟨rfl,HB.out⟩
structure Ad17 (w0 w:World) (S:Sv14) (A0 A1 A2 A3 A4:Option Addr) (n0 n1 n2 n3 n4 c0 c1 c2 c3 c4:Nat) (sq:Int) (g1 g2:Nat) (M:Nat->Bool) (Am:Nat->Nat) (A:Option Addr) (l:List Nat) (W:World):Prop where
 k:Bk13 w0.heap.size g1 (some g2) w W
 b:Below w0.heap.size w0 W
 x:Blk W (w.heap.size + 1) 28 #[.slice A0 n0 c0,.slice A1 n1 c1,.slice A2 n2 c2,.slice A3 n3 c3,.slice A4 n4 c4,.int .i64 sq]
 y:Blk W w.heap.size 122 #[.slice (some ⟨g1,0,none⟩) n1 n1,.slice (some ⟨g2,0,none⟩) n0 n0]
 r1:Bb13 W g1 n1 M
 r2:Ib13 W g2 n0 Am
 r:Rd W W.heap.size A l
 f:Fa17 w.heap.size A l
 s:SA14 w0 S A0 A1 A2 A3 A4 n0 n1 n2 n3 n4 c0 c1 c2 c3 c4 sq
 e1:g1 < w.heap.size
 e2:g2 < w.heap.size
 f1:w0.heap.size<=g1
 f2:w0.heap.size<=g2
 ne:g1≠g2
theorem Ad17.sa {w0 w:World} {S:Sv14} {A0 A1 A2 A3 A4:Option Addr} {n0 n1 n2 n3 n4 c0 c1 c2 c3 c4:Nat} {sq:Int} {g1 g2:Nat} {M:Nat->Bool} {Am:Nat->Nat} {A:Option Addr} {l:List Nat} {W:World} (h:Ad17 w0 w S A0 A1 A2 A3 A4 n0 n1 n2 n3 n4 c0 c1 c2 c3 c4 sq g1 g2 M Am A l W):SA14 W S A0 A1 A2 A3 A4 n0 n1 n2 n3 n4 c0 c1 c2 c3 c4 sq:=h.s.step h.b
theorem Ad17.step {w0 w:World} {S:Sv14} {A0 A1 A2 A3 A4:Option Addr} {n0 n1 n2 n3 n4 c0 c1 c2 c3 c4:Nat} {sq:Int} {g1 g2:Nat} {M:Nat->Bool} {Am:Nat->Nat} {A:Option Addr} {l:List Nat} {W W':World} (h:Ad17 w0 w S A0 A1 A2 A3 A4 n0 n1 n2 n3 n4 c0 c1 c2 c3 c4 sq g1 g2 M Am A l W) (hb:Below W.heap.size W W'):Ad17 w0 w S A0 A1 A2 A3 A4 n0 n1 n2 n3 n4 c0 c1 c2 c3 c4 sq g1 g2 M Am A l W' :=
 ⟨bk17_trans h.k (bk17_below h.b.size hb),h.b.trans (hb.mono h.b.size),h.x.below hb h.x.lt,h.y.below hb h.y.lt,h.r1.step hb,h.r2.below hb h.r2.lt,(h.r.below hb (Nat.le_refl _)).more hb.size,h.f,h.s,h.e1,h.e2,h.f1,h.f2,h.ne⟩
theorem Ad17.congr {w0 w:World} {S:Sv14} {A0 A1 A2 A3 A4:Option Addr} {n0 n1 n2 n3 n4 c0 c1 c2 c3 c4:Nat} {sq:Int} {g1 g2:Nat} {M M':Nat->Bool} {Am Am':Nat->Nat} {A:Option Addr} {l:List Nat} {W:World} (h:Ad17 w0 w S A0 A1 A2 A3 A4 n0 n1 n2 n3 n4 c0 c1 c2 c3 c4 sq g1 g2 M Am A l W) (e1:M = M') (e2:Am = Am'):Ad17 w0 w S A0 A1 A2 A3 A4 n0 n1 n2 n3 n4 c0 c1 c2 c3 c4 sq g1 g2 M' Am' A l W:=e1 ▸ e2 ▸ h
theorem rd17_far {L:Nat} {A:Option Addr} {l:List Nat} {W:World} (h:Rd W W.heap.size A l) (hf:Fa17 L A l) {p:Addr} (hp:p.block < L) (u:Value):Rd (W.setCell p u) (W.setCell p u).heap.size A l:=fun hx => by
 obtain ⟨b,o,h1,h2,h3⟩:=h hx;obtain ⟨b2,o2,h4,h5⟩:=hf hx;rw [h1] at h4;injection h4 with h4
 injection h4 with h4
 exact ⟨b,o,h1,by simpa [World.setCell] using h2,fun k hk => (World.cell?_of_block (Below.heap_setCell W p u b (by omega))).trans (h3 k hk)⟩
theorem Ad17.mark {w0 w:World} {S:Sv14} {A0 A1 A2 A3 A4:Option Addr} {n0 n1 n2 n3 n4 c0 c1 c2 c3 c4:Nat} {sq:Int} {g1 g2:Nat} {M:Nat->Bool} {Am:Nat->Nat} {A:Option Addr} {l:List Nat} {W:World} (h:Ad17 w0 w S A0 A1 A2 A3 A4 n0 n1 n2 n3 n4 c0 c1 c2 c3 c4 sq g1 g2 M Am A l W) {j:Nat} (hj:j < n1) (u:Bool):Ad17 w0 w S A0 A1 A2 A3 A4 n0 n1 n2 n3 n4 c0 c1 c2 c3 c4 sq g1 g2 (upd M j u) Am A l (W.setCell ⟨g1,j,none⟩ (.bool u)) :=
 ⟨bk17_trans h.k (bk17_set (p:=⟨g1,j,none⟩) h.f1 (.inl rfl) _),h.b.setCell h.f1 _,h.x.far (by have:=h.e1; simp; omega) _,h.y.far (by have:=h.e1; simp; omega) _,h.r1.put hj u,h.r2.far (fun e => h.ne e.symm) _,rd17_far h.r h.f h.e1 _,h.f,h.s,h.e1,h.e2,h.f1,h.f2,h.ne⟩
theorem Ad17.sum {w0 w:World} {S:Sv14} {A0 A1 A2 A3 A4:Option Addr} {n0 n1 n2 n3 n4 c0 c1 c2 c3 c4:Nat} {sq:Int} {g1 g2:Nat} {M:Nat->Bool} {Am:Nat->Nat} {A:Option Addr} {l:List Nat} {W:World} (h:Ad17 w0 w S A0 A1 A2 A3 A4 n0 n1 n2 n3 n4 c0 c1 c2 c3 c4 sq g1 g2 M Am A l W) {c:Nat} (hc:c < n0) (z:Nat):Ad17 w0 w S A0 A1 A2 A3 A4 n0 n1 n2 n3 n4 c0 c1 c2 c3 c4 sq g1 g2 M (upd Am c z) A l (W.setCell ⟨g2,c,none⟩ (.int .i64 (z:Int))) :=
 ⟨bk17_trans h.k (bk17_set (p:=⟨g2,c,none⟩) h.f2 (.inr rfl) _),h.b.setCell h.f2 _,h.x.far (by have:=h.e2; simp; omega) _,h.y.far (by have:=h.e2; simp; omega) _,h.r1.far17 h.ne _,h.r2.put hc z,rd17_far h.r h.f h.e2 _,h.f,h.s,h.e1,h.e2,h.f1,h.f2,h.ne⟩
theorem Ad17.row {w0 w:World} {S:Sv14} {A0 A1 A2 A3 A4:Option Addr} {n0 n1 n2 n3 n4 c0 c1 c2 c3 c4:Nat} {sq:Int} {g1 g2:Nat} {M:Nat->Bool} {Am:Nat->Nat} {A B2:Option Addr} {l l2:List Nat} {W:World} (h:Ad17 w0 w S A0 A1 A2 A3 A4 n0 n1 n2 n3 n4 c0 c1 c2 c3 c4 sq g1 g2 M Am A l W) (h1:Rd W W.heap.size B2 l2) (h2:Fa17 w.heap.size B2 l2):Ad17 w0 w S A0 A1 A2 A3 A4 n0 n1 n2 n3 n4 c0 c1 c2 c3 c4 sq g1 g2 M Am B2 l2 W :=
 ⟨h.k,h.b,h.x,h.y,h.r1,h.r2,h1,h2,h.s,h.e1,h.e2,h.f1,h.f2,h.ne⟩
theorem upd17_same {f:Nat->Nat} {c z:Nat} (h:f c = z):upd f c z = f:=funext (fun x => by
 by_cases hx:x = c
 · subst hx; rw [upd_at,h]
 · rw [upd_far _ _ hx])
theorem upd17_twice (f:Nat->Nat) (c y z:Nat):upd (upd f c y) c z = upd f c z:=funext (fun x => by
 by_cases hx:x = c
 · subst hx; rw [upd_at,upd_at]
 · rw [upd_far _ _ hx,upd_far _ _ hx,upd_far _ _ hx])
theorem add17 (w0:World) (S:Sv14) (A0 A1 A2 A3 A4:Option Addr) (n0 n1 n2 n3 n4 c0 c1 c2 c3 c4:Nat) (sq:Int) (g1 g2 c:Nat) (M:Nat->Bool) (Am:Nat->Nat) (w:World) (hs:SA14 w0 S A0 A1 A2 A3 A4 n0 n1 n2 n3 n4 c0 c1 c2 c3 c4 sq) (hf:Fine14 S) (hb:Below w0.heap.size w0 w) (hr1:Bb13 w g1 n1 M) (hr2:Ib13 w g2 n0 Am) (hf1:w0.heap.size<=g1) (hf2:w0.heap.size<=g2) (hne:g1≠g2)
  (hu:us14 usC S.C (c:Int) = true) (hz:Am c = 0) (hpre:∀ j,j∈isd15 S (c:Int)->∀ z,cntb17 S j = ((gt14 S.T j).o && lts17 S S.C.length (upd Am c z) (gt14 S.T j).k (gt14 S.T j).t)) :
  Calls Tryz.prog 117 #[.agg #[.slice (some ⟨g1,0,none⟩) n1 n1,.slice (some ⟨g2,0,none⟩) n0 n0],(.agg #[.slice A0 n0 c0,.slice A1 n1 c1,.slice A2 n2 c2,.slice A3 n3 c3,.slice A4 n4 c4,.int .i64 sq]),.int .i64 (c:Int)] w fun e w' => e = .returned (.tuple #[])/\Bk13 w0.heap.size g1 (some g2) w w'/\Bb13 w' g1 n1 (adt17 S (isd15 S (c:Int)) M (isd15 S (c:Int)).length)/\Ib13 w' g2 n0 (upd Am c (ada17 S (isd15 S (c:Int)) (isd15 S (c:Int)).length)):=by
 have hb1:=b1' w (.cells #[.slice (some ⟨g1,0,none⟩) n1 n1,.slice (some ⟨g2,0,none⟩) n0 n0] 122);have hk1:=Blk.new w 122 #[.slice (some ⟨g1,0,none⟩) n1 n1,.slice (some ⟨g2,0,none⟩) n0 n0];have hz1:(w.alloc (.cells #[.slice (some ⟨g1,0,none⟩) n1 n1,.slice (some ⟨g2,0,none⟩) n0 n0] 122)).heap.size = w.heap.size + 1:=by simp
 obtain ⟨wa,hwa⟩:=exq (w.alloc (.cells #[.slice (some ⟨g1,0,none⟩) n1 n1,.slice (some ⟨g2,0,none⟩) n0 n0] 122));rw [hwa] at hb1 hk1 hz1;have hb2:=b1' wa (.cells #[.slice A0 n0 c0,.slice A1 n1 c1,.slice A2 n2 c2,.slice A3 n3 c3,.slice A4 n4 c4,.int .i64 sq] 28)
 have hk2:=Blk.new wa 28 #[.slice A0 n0 c0,.slice A1 n1 c1,.slice A2 n2 c2,.slice A3 n3 c3,.slice A4 n4 c4,.int .i64 sq];rw [hz1] at hk2;obtain ⟨wb,hwb⟩:=exq (wa.alloc (.cells #[.slice A0 n0 c0,.slice A1 n1 c1,.slice A2 n2 c2,.slice A3 n3 c3,.slice A4 n4 c4,.int .i64 sq] 28));rw [hwb] at hb2 hk2;have hg:=hb1.trans (hb2.mono hb1.size)
 have hk1b:=hk1.below hb2 hk1.lt;obtain ⟨l,hl⟩:=exq (isd15 S (c:Int));have hll:=isd17_len S (c:Int);have HIS:=qz (issued17 (.agg #[.slice A0 n0 c0,.slice A1 n1 c1,.slice A2 n2 c2,.slice A3 n3 c3,.slice A4 n4 c4,.int .i64 sq]) S (c:Int) wb ⟨A0,A1,A2,A3,A4,n0,n1,n2,n3,n4,c0,c1,c2,c3,c4,sq,rfl,hs.step (hb.trans (hg.mono hb.size))⟩);rw [hl] at hpre HIS hll ⊢
 have HPR:=qz hpre;have HMB:=qz (fun j => (isd17_mem hu (j:=j)).1);rw [hl] at HMB;have HF:=qz hf;have HL0:=qz hs.l0;have HL1:=qz hs.l1;have hm1:=hs.m1;have hc0:c < n0:=by have:=us15_lt hu; have:=hs.l0; omega
 obtain ⟨m,hm⟩:=exq l.length;have HM:=qz hm;have hmn:m<=1000:=by have:=hs.l1; omega
 have HADB:=qz (ada17_bound hf.2.2.2.2.1 l)
 have HA0:Hid (Ad17 w0 w S A0 A1 A2 A3 A4 n0 n1 n2 n3 n4 c0 c1 c2 c3 c4 sq g1 g2 (adt17 S l M 0) (upd Am c (ada17 S l 0)) none [] wb):=qz
  ⟨bk17_below hb.size hg,hb.trans (hg.mono hb.size),hk2,hk1b,hr1.step hg,by rw [show upd Am c (ada17 S l 0) = Am from upd17_same hz]; exact hr2.below hg hr2.lt,fun h => absurd rfl h,fun h => absurd rfl h,hs,hr1.lt17,hr2.lt,hf1,hf2,hne⟩
 obtain ⟨x0,x1,x2,x3,x4,x5⟩:=ce6 hk2;clear hb1 hb2 hk1 hg hk1b hpre hf hs hb hr1 hr2 hf1 hf2 hz hl hm hu hll hne hk2;go_enter Tryz.func117,Tryz.ntmps117;go_wp2_with fail;refine HIS.out.mono ?_;rintro e w3 ⟨A,ca,rfl,hr3,hfa3,hb3⟩;rw [HM.out];have HW3:=qz ((HA0.out.step hb3).row hr3 (hfa3.more HA0.out.k.size));clear HIS hr3 hfa3 hb3 HA0 x0 x1 x2 x3 x4 x5
 go_wp2_with fail;go_loopw [13] (fun i wr => ∃ k:Nat,i = .int .i64 (k:Int)/\k<=m/\Hid (Ad17 w0 w S A0 A1 A2 A3 A4 n0 n1 n2 n3 n4 c0 c1 c2 c3 c4 sq g1 g2 (adt17 S l M k) (upd Am c (ada17 S l k)) A l wr)) (fun i _ => m - (intOf i).toNat)
 case atStart => exact ⟨0,rfl,by omega,HW3⟩
 case round =>
  clear HW3;obtain ⟨k,rfl,hk,HW⟩:=hrel;by_cases hkm:k < m
  ·
   obtain ⟨ga,oa,hA,hab,q0⟩:=HW.out.r.at_ (show k < l.length by rw [HM.out]; exact hkm);obtain ⟨j,hj⟩:=exq (nth l k);rw [hj] at q0;have hjl:j∈l:=by rw [<- hj,nth_in (by rw [HM.out]; exact hkm)]; exact List.getElem_mem _
   have hjn:=(HMB.out j hjl).1;obtain ⟨gt,ot,hAt,hbt,hq⟩:=Lq.at_ len14T (by omega) HW.out.sa.r1 hjn;have t1:wr.cell? ⟨w.heap.size + 1,1,none⟩ = some (.slice (some ⟨gt,ot,none⟩) n1 c1):=by rw [<- hAt]; exact HW.out.x.cell 1
   obtain ⟨x,hx⟩:=exq (gt14 S.T j);have hpr:=HPR.out j hjl (ada17 S l k);rw [hx] at hq hpr;obtain ⟨xu,xc,xa,xk,xt,xo⟩:=x;have e0:wr.cell? ⟨gt,ot + j * 6,none⟩ = some (.bool xu):=hq 0 _ rfl;have e1:wr.cell? ⟨gt,ot + j * 6 + 1,none⟩ = some (.int .i64 xc):=hq 1 _ rfl;have e2:wr.cell? ⟨gt,ot + j * 6 + 2,none⟩ = some (.int .i64 xa):=hq 2 _ rfl
   have e3:wr.cell? ⟨gt,ot + j * 6 + 3,none⟩ = some (.int .i64 xk):=hq 3 _ rfl;have e4:wr.cell? ⟨gt,ot + j * 6 + 4,none⟩ = some (.int .i64 xt):=hq 4 _ rfl;have e5:wr.cell? ⟨gt,ot + j * 6 + 5,none⟩ = some (.bool xo):=hq 5 _ rfl;have i0:(0:Int)<=(k:Int):=by omega
   have i1:(k:Int) < (m:Int):=by omega
   have j0:(0:Int)<=(j:Int):=by omega
   have hj1:j < n1:=by have:=HL1.out; omega
   have j1:(j:Int) < (n1:Int):=by omega
   have s0:(0:Int)<=(c:Int):=by omega
   have s1:(c:Int) < (n0:Int):=by omega
   have HNT:Hid (adt17 S l M (k + 1) = if cntb17 S j = true then upd (adt17 S l M k) j true else adt17 S l M k):=qz (by rw [adt17,hj]);have HNA:Hid (ada17 S l (k + 1) = ada17 S l k + if cntb17 S j = true then xa.toNat else 0):=qz (by rw [ada17,hj,hx])
   have HV:=qz (HW.out.step (b1' wr (.cells #[.bool xu,.int .i64 xc,.int .i64 xa,.int .i64 xk,.int .i64 xt,.bool xo] 55)));have hv:=Blk.new wr 55 #[.bool xu,.int .i64 xc,.int .i64 xa,.int .i64 xk,.int .i64 xt,.bool xo];have hvl:w.heap.size + 1 < wr.heap.size:=HW.out.x.lt;obtain ⟨gv,hgv⟩:=exq wr.heap.size
   obtain ⟨X,hX⟩:=exq (wr.alloc (.cells #[.bool xu,.int .i64 xc,.int .i64 xa,.int .i64 xk,.int .i64 xt,.bool xo] 55));rw [hgv] at hv hvl;rw [hX] at HV hv;obtain ⟨v0,v1,v2,v3,v4,v5⟩:=ce6 hv;have HVB:=qz hv;have HXJ:=qz hx
   have HXA:Hid (cntb17 S j = true->1<=xa/\xa<=1048576):=qz (fun h => by
    have h1:=(cntb17_yes.1 h).lt;have h2:=HF.out.2.2.2.2.1 j h1.1 h1.2;rw [hx] at h2
    exact ⟨h2.2.1,h2.2.2.1⟩)
   clear hv hq hx hab hbt hjl hj hAt;subst hA;go_upto_region 5 with (fail)
   clear t1 e0 e1 e2 e3 e4 e5 q0 hX
   cases xo with
   | false =>
    have hcf:cntb17 S j = false:=by rw [hpr]; rfl
    have HN:Hid (Ad17 w0 w S A0 A1 A2 A3 A4 n0 n1 n2 n3 n4 c0 c1 c2 c3 c4 sq g1 g2 (adt17 S l M (k + 1)) (upd Am c (ada17 S l (k + 1))) (some ⟨ga,oa,none⟩) l X):=qz (HV.out.congr (by rw [HNT.out,hcf]; rfl) (by rw [HNA.out,hcf]; rfl));clear hpr hcf HV HNT HNA HXA;go_wp2_with fail;go_roundw
    case rel => exact ⟨k + 1,by go_num,by omega,HN⟩
    case measure => simp [intOf]; omega
   | true =>
    rw [Bool.true_and,show S.C.length = n0 from HL0.out] at hpr;have HLT:=qz (lets17 S A0 A1 A2 A3 A4 n0 n1 n2 n3 n4 c0 c1 c2 c3 c4 sq (some ⟨g1,0,none⟩) n1 n1 g2 n0 n0 (upd Am c (ada17 S l k)) xu xc xa xk xt true X HV.out.sa HF.out HV.out.r2);have y0:=HV.out.y.cell 0;have y1:=HV.out.y.cell 1;obtain ⟨x0,x1,x2,x3,x4,x5⟩:=ce6 HV.out.x
    rw [<- show cntb17 S j = lts17 S n0 (upd Am c (ada17 S l k)) xk xt from hpr] at HLT;obtain ⟨b,hb⟩:=exq (cntb17 S j);rw [hb] at HLT HNT HNA HXA;clear hpr hb
    cases b with
    | false =>
     go_wp2_with fail;refine HLT.out.mono ?_;rintro e w4 ⟨rfl,hb4⟩;have HN:Hid (Ad17 w0 w S A0 A1 A2 A3 A4 n0 n1 n2 n3 n4 c0 c1 c2 c3 c4 sq g1 g2 (adt17 S l M (k + 1)) (upd Am c (ada17 S l (k + 1))) (some ⟨ga,oa,none⟩) l w4):=qz ((HV.out.step hb4).congr (by rw [HNT.out]; rfl) (by rw [HNA.out]; rfl));clear HLT hb4 HV HNT HNA HXA;go_wp2_with fail
     go_roundw
     case rel => exact ⟨k + 1,by go_num,by omega,HN⟩
     case measure => simp [intOf]; omega
    | true =>
     go_wp2_with fail;refine HLT.out.mono ?_;rintro e w4 ⟨rfl,hb4⟩;have hx1:=HXA.out (by first | rfl | trivial);have hsb:=HADB.out k;obtain ⟨z,hz⟩:=exq (ada17 S l k);have h4:=HV.out.step hb4;have f1:=(h4.r1.cells hj1).2;have p1:=(h4.r1.cells hj1).1;have h5:=h4.mark hj1 true
     have hv5:=(HVB.out.below hb4 HVB.out.lt).far (p:=⟨g1,j,none⟩) (by have:=h4.e1; simp; omega) (.bool true);have y05:=h4.y.cell 0;obtain ⟨w5,hw5⟩:=exq (w4.setCell ⟨g1,j,none⟩ (.bool true));rw [hw5] at h5 hv5;rw [hz] at h5 hsb;have y15:=h5.y.cell 1;have p2:=(h5.r2.cells hc0).1;have f2:=(h5.r2.cells hc0).2;rw [upd_at] at p2;have v52:=hv5.cell 2
     obtain ⟨z2,hz2⟩:∃ z2:Nat,(z:Int) + xa = (z2:Int):=⟨((z:Int) + xa).toNat,by omega⟩
     have HZ2:Hid (ada17 S l (k + 1) = z2):=qz (by rw [HNA.out,hz,if_pos (by first | rfl | trivial)]; omega);have hwr:IntKind.i64.wrap ((z2:Nat):Int) = (z2:Int):=by rw [IntKind.wrap_i64]; omega
     have h6:=h5.sum hc0 z2;rw [upd17_twice] at h6;have HN:Hid (Ad17 w0 w S A0 A1 A2 A3 A4 n0 n1 n2 n3 n4 c0 c1 c2 c3 c4 sq g1 g2 (adt17 S l M (k + 1)) (upd Am c (ada17 S l (k + 1))) (some ⟨ga,oa,none⟩) l (w5.setCell ⟨g2,c,none⟩ (.int .i64 (z2:Int)))):=qz (h6.congr (by rw [HNT.out]; rfl) (by rw [HZ2.out]))
     clear HLT hb4 HV HNT HNA HXA h4 h5 h6 hv5 hz HZ2 hx1 hsb HVB;go_wp2_with fail
     go_region
     go_wp2_with fail;go_roundw
     case rel => exact ⟨k + 1,by go_num,by omega,qz (HN.out.step (Below.refl _ _).drew)⟩
     case measure => simp [intOf]; omega
  ·
   obtain rfl:k = m:=by omega
   have i1:¬ (k:Int) < (k:Int):=by omega
   go_wp2_with fail
   go_end0
   rw [HM.out];exact ⟨rfl,HW.out.k,HW.out.r1,HW.out.r2⟩
end
end Go.Proofs.YtkdmnlihpebbkaaGreat
