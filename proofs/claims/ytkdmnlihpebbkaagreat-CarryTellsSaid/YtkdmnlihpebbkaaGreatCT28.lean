import Derived.Test.YtkdmnlihpebbkaaGreatCT27
set_option linter.all false
set_option maxHeartbeats 8000000
namespace Go.Proofs.YtkdmnlihpebbkaaGreat
section
open Go.RowKit
set_option maxRecDepth 100000
theorem Wo18.sqh19 {S:Sv14} {wC wT:Nat->Rat} (h:Wo18 S wC wT) (hf:Fine14 S) (i:Nat):Sq18 (th18 S wT i):=by
 have h96:S.T.length<=96:=hf.2.2.1.2.1.1;rw [th18_list];exact (h.sq hf).2.2 _ _ (by have:=tks15_len S (fnd15 1 (i:Int)) S.T.length; omega)
theorem rat19 (v:Value) (S:Sv14) (wC wT:Nat->Rat) (ti:Nat) (w:World) (h:St14 w v S) (hf:Fine14 S) (hw:Wo18 S wC wT) (hi:ti < S.H.length) :
  Calls Tryz.prog 9 #[v,.int .i64 (ti:Int)] w (RetDB w (qr18 (car19 S (th18 S wT) ti)).1 (qr18 (car19 S (th18 S wT) ti)).2):=by
 obtain ⟨A0,A1,A2,A3,A4,n0,n1,n2,n3,n4,c0,c1,c2,c3,c4,sq,rfl,hs⟩:=h;have hx0:By16 w S A0 A1 A2 A3 A4 n0 n1 n2 n3 n4 c0 c1 c2 c3 c4 sq _:=⟨Bx14.new hs,hs⟩
 obtain ⟨W1,hW1⟩:=exq (w.alloc (.cells #[.slice A0 n0 c0,.slice A1 n1 c1,.slice A2 n2 c2,.slice A3 n3 c3,.slice A4 n4 c4,.int .i64 sq] 28));have hz1:W1.heap.size = w.heap.size + 1:=by rw [<- hW1]; simp
 rw [hW1] at hx0;have hb2:=b1' W1 (.cells #[.slice none 0 0,.slice none 0 0] 35);have hk2:=Blk.new W1 35 #[.slice none 0 0,.slice none 0 0];obtain ⟨W2,hW2⟩:=exq (W1.alloc (.cells #[.slice none 0 0,.slice none 0 0] 35));have hz2:W2.heap.size = w.heap.size + 2:=by rw [<- hW2]; simp; omega
 rw [hW2,hz1] at hk2;rw [hW2] at hb2;have hx2:=hx0.step hb2;have HX2:=qz hx2;have HO2:=qz hk2;obtain ⟨x0,x1,x2,x3,x4,x5⟩:=ce6 hx2.b.x;have hce:=car19_list hf (th18 S wT) hi;have hcs:=(hw.car_sq hf).2.2;have HST:Hid (∀ j,Sq18 (th18 S wT j)):=qz (hw.sqh19 hf)
 have HTA:=qz (fun (j:Nat) W (h:Bx14 w S A0 A1 A2 A3 A4 n0 n1 n2 n3 n4 c0 c1 c2 c3 c4 sq W) => rthread18 (.agg #[.slice A0 n0 c0,.slice A1 n1 c1,.slice A2 n2 c2,.slice A3 n3 c3,.slice A4 n4 c4,.int .i64 sq]) S wC wT hf hw j W h.st)
 have HLS:=qz (fun W (h:Bx14 w S A0 A1 A2 A3 A4 n0 n1 n2 n3 n4 c0 c1 c2 c3 c4 sq W) => rbehind16 (.agg #[.slice A0 n0 c0,.slice A1 n1 c1,.slice A2 n2 c2,.slice A3 n3 c3,.slice A4 n4 c4,.int .i64 sq]) S (ti:Int) false W h.st hf);obtain ⟨l,hl⟩:=exq (bh16 S (ti:Int) false);obtain ⟨m,hm⟩:=exq l.length
 have hlm:m<=100:=by
  have h1:=bh16_len S (ti:Int) false;have h2:S.H.length<=32:=hf.2.2.1.2.2.1.1;rw [hl,hm] at h1;omega
 have HSQ:Hid (∀ k,k<=m->Sq18 (th18 S wT ti + tsum18 (th18 S wT) l k)):=qz (fun k hk => by
  have h1:=hcs ti k hi (by rw [hl,hm]; exact hk);rw [hl] at h1
  exact h1)
 rw [hl] at HLS;rw [hl,hm] at hce;have HEQ:=qz hce;have HM:=qz hm;obtain ⟨th,hth⟩:=exq (th18 S wT);rw [hth] at HEQ HSQ HST HTA ⊢;have HT0:=qz (HTA.out ti)
 have HTK:Hid (∀ j,j∈l->∀ W (h:Bx14 w S A0 A1 A2 A3 A4 n0 n1 n2 n3 n4 c0 c1 c2 c3 c4 sq W),Calls Tryz.prog 30 #[(.agg #[.slice A0 n0 c0,.slice A1 n1 c1,.slice A2 n2 c2,.slice A3 n3 c3,.slice A4 n4 c4,.int .i64 sq]),.int .i64 (j:Int)] W (RetDB W (qr18 (th j)).1 (qr18 (th j)).2)):=qz (fun j _ W h => HTA.out j W h)
 have HZ0:Hid (th ti = th ti + tsum18 th l 0):=qz (by rw [tsum18]; grind);clear hs hx0 hb2 hk2 hx2 hf hw hcs hl hm hth hce hi HTA;go_enter Tryz.func9,Tryz.ntmps9;go_wp2_with fail;refine (HT0.out _ HX2.out.b).mono ?_;rintro e w3 ⟨D1,i1,t1,D2,i2,t2,rfl,hq1,hq2,hb3⟩;have ha3:=b1' w3 (.cells #[.slice D1 i1 t1,.slice D2 i2 t2] 35)
 have hv3:=Blk.new w3 35 #[.slice D1 i1 t1,.slice D2 i2 t2];have hx3:=(HX2.out.step hb3).step ha3;have hgq:w.heap.size + 2<=w3.heap.size:=by have:=hb3.size; omega
 obtain ⟨gq,hgq0⟩:=exq w3.heap.size;obtain ⟨W3,hW3⟩:=exq (w3.alloc (.cells #[.slice D1 i1 t1,.slice D2 i2 t2] 35))
 have HQ3:Hid (Sm18q w gq (th ti) W3):=qz ⟨by rw [<- hW3]; exact (HO2.out.below hb3 HO2.out.lt).below ha3 (HO2.out.below hb3 HO2.out.lt).lt,D1,i1,t1,D2,i2,t2,by rw [<- hW3,<- hgq0]; exact hv3,by rw [<- hW3]; exact (Qn18.below (⟨hq1,hq2⟩:Qn18 w3 _ (th ti) D1 i1 t1 D2 i2 t2) ha3).lower (by omega)⟩;rw [hW3] at hx3;rw [hgq0] at hgq;have HX3:=qz hx3
 obtain ⟨y0,y1,y2,y3,y4,y5⟩:=ce6 hx3.b.x;clear hq1 hq2 hb3 ha3 hv3 hx3 HX2 HO2 x0 x1 x2 x3 x4 x5 hW1 hW2;go_upto_region 2 with (fail)
 try rw [hgq0]
 try rw [hW3]
 clear hgq0 hW3 hz1 hz2;go_wp2_with fail;refine (HLS.out _ HX3.out.b).mono ?_;rintro e w4 ⟨A,ca,rfl,hr4,hb4⟩;rw [HM.out];have HS4:Hid (Sr18 w S A0 A1 A2 A3 A4 n0 n1 n2 n3 n4 c0 c1 c2 c3 c4 sq A l w4):=qz ⟨HX3.out.step hb4,hr4⟩
 have HQ4:Hid (Sm18q w gq (th ti + tsum18 th l 0) w4):=qz (by
  obtain ⟨o,D1,i1,t1,D2,i2,t2,h1,h2⟩:=HQ3.out
  exact ⟨o.below hb4 o.lt,D1,i1,t1,D2,i2,t2,h1.below hb4 h1.lt,(h2.below hb4).congr HZ0.out⟩)
 clear hr4 hb4 HX3 HQ3 HLS y0 y1 y2 y3 y4 y5;go_wp2_with fail;go_loopw [7] (fun i wr => ∃ k:Nat,i = .int .i64 (k:Int)/\k<=m/\Hid (Sr18 w S A0 A1 A2 A3 A4 n0 n1 n2 n3 n4 c0 c1 c2 c3 c4 sq A l wr)/\Hid (Sm18q w gq (th ti + tsum18 th l k) wr)) (fun i _ => m - (intOf i).toNat)
 case atStart => exact ⟨0,rfl,by omega,HS4,HQ4⟩
 case round =>
  clear HS4 HQ4;obtain ⟨k,rfl,hk,HS,HQ⟩:=hrel;by_cases hkm:k < m
  ·
   have hkl:k < l.length:=by rw [HM.out]; exact hkm
   obtain ⟨ga,oa,hA,hab,q0⟩:=HS.out.r.at_ hkl;obtain ⟨j,hj⟩:=exq (nth l k);have hjl:j∈l:=by rw [<- hj,nth_in hkl]; exact List.getElem_mem _
   have HTJ:=qz (HTK.out j hjl);have i0:(0:Int)<=(k:Int):=by omega
   have i1:(k:Int) < (m:Int):=by omega
   obtain ⟨ho,D1,n1',t1,D2,n2',t2,hv,hn⟩:=HQ.out;have HO:Hid (Blk wr.drew (w.heap.size + 1) 35 #[.slice none 0 0,.slice none 0 0]):=qz (ho.below (Below.refl wr.heap.size wr).drew ho.lt);have HV:Hid (Blk wr.drew gq 35 #[.slice D1 n1' t1,.slice D2 n2' t2]):=qz (hv.below (Below.refl wr.heap.size wr).drew hv.lt)
   have HN:Hid (Qn18 wr.drew w.heap.size (th ti + tsum18 th l k) D1 n1' t1 D2 n2' t2):=qz (hn.below (Below.refl wr.heap.size wr).drew);have HKL:=qz hkl;have HJ:=qz hj;have HSX:=qz (HSQ.out k (by omega));have HSY:=qz (HST.out j);have HNX:Hid (th ti + tsum18 th l (k + 1) = (th ti + tsum18 th l k) + th j):=qz (by rw [tsum18,hj]; grind)
   clear hab q0 hj hjl ho hv hn HQ hkl;subst hA;have HXN:Hid (Sr18 w S A0 A1 A2 A3 A4 n0 n1 n2 n3 n4 c0 c1 c2 c3 c4 sq (some ⟨ga,oa,none⟩) l wr.drew):=qz (HS.out.step (Below.refl _ _).drew);clear HS;obtain ⟨wn,hwn⟩:=exq wr.drew;rw [hwn] at HXN HO HV HN;go_wp2_with fail
   refine wp_region_held_drew (S:=Sr18 w S A0 A1 A2 A3 A4 n0 n1 n2 n3 n4 c0 c1 c2 c3 c4 sq (some ⟨ga,oa,none⟩) l) (by kernel_rfl) (by rw [hwn]; exact HXN.out) (fun hHeld => ?_);rw [hwn] at hHeld ⊢;clear hwn;have HBS:=HXN;refine tk 1 (v:=?_) (fun W hS => ?_) ?_;rotate_left
   ·
    try dsimp only at hS
    obtain ⟨z0,z1,z2,z3,z4,z5⟩:=ce6 hS.b.b.x;go_simp
    try with_reducible rfl
   try simp only [Act.put,pt1,pt2,pt3]
   refine tkq 2 ?_;refine tkq 3 ?_;refine tkq 4 ?_;refine tk 5 (v:=?_) (fun W hS => ?_) ?_;rotate_left
   ·
    try dsimp only at hS
    have z0:=rd18_cell hS.r HKL.out;rw [HJ.out] at z0;go_simp
    try with_reducible rfl
   try simp only [Act.put,pt1,pt2,pt3]
   refine wpAnyH_ready (rs:=[0,6]) (by kernel_rfl) (by simp) (AllReadyH.cons (op_of rfl) (fun K hK => ?_) (AllReadyH.cons (op_of rfl) (fun K hK => ?_) AllReadyH.nil))
   ·
    skip;have p0:=HV.out.cell 0;have p1:=HV.out.cell 1;go_simp;refine koq hK HBS.out (fun hHeld=>?_);clear hK K;refine rdy 6 (fun K hK => ?_);have HBS0:=HBS;go_simp;refine (HTJ.out _ HBS0.out.b.b).mono ?_;rintro e wn ⟨E1,j1,o1,E2,j2,o2,rfl,hx,hy,hb⟩;have HBS:=qz (HBS0.out.step hb);have HO:=qz (HO.out.below hb HO.out.lt)
    have HV:=qz (HV.out.below hb HV.out.lt);have HN:=qz (HN.out.below hb);have HT:Hid (Qn18 wn _ (th j) E1 j1 o1 E2 j2 o2):=qz ⟨hx,hy⟩;clear hb HBS0 hx hy;refine koq hK HBS.out (fun hHeld=>?_);clear hK K;refine rdy 7 (fun K hK => ?_);have HBS0:=HBS;go_simp;refine (add18_q wn HN.out HT.out HSX.out HSY.out).mono ?_
    rintro e wn ⟨F1,k1,s1,F2,k2,s2,rfl,hx,hy,hb⟩;have HBS:=qz (HBS0.out.step hb);have HO:=qz (HO.out.below hb HO.out.lt);have HV:=qz (HV.out.below hb HV.out.lt);have hls:=HBS0.out.b.b.b.size;have HR:Hid (Qn18 wn w.heap.size ((th ti + tsum18 th l k) + th j) F1 k1 s1 F2 k2 s2):=qz (qn18_of hx hy hls);clear hls;clear hb HBS0 hx hy HT HN
    refine koq hK HBS.out (fun hHeld=>?_);clear hK K;refine rdy 8 (fun K hK => ?_);have x0:=HV.out.cell 0;have x1:=HV.out.cell 1;have xf0:=HV.out.frozen 0;have xf1:=HV.out.frozen 1;have HBS0:=HBS;go_simp;obtain ⟨wm,hwm⟩:=exq ((wn.setCell ⟨gq,0,none⟩ (.slice F1 k1 s1)).setCell ⟨gq,1,none⟩ (.slice F2 k2 s2));have hgn:w.heap.size + 1≠gq:=by omega
    have HBS:=qz (show Sr18 w S A0 A1 A2 A3 A4 n0 n1 n2 n3 n4 c0 c1 c2 c3 c4 sq (some ⟨ga,oa,none⟩) l wm by rw [<- hwm]; exact HBS0.out.put (by omega) HV.out _ _);have HR:=qz (show Qn18 wm w.heap.size _ F1 k1 s1 F2 k2 s2 by rw [<- hwm]; exact HR.out.put HV.out _ _)
    have HO:=qz (show Blk wm (w.heap.size + 1) 35 _ by rw [<- hwm]; exact (HO.out.far hgn _).far hgn _);have HV:=qz (show Blk wm gq 35 _ by rw [<- hwm]; exact put_Q HV.out (.slice F1 k1 s1) (.slice F2 k2 s2));rw [hwm];clear hwm hgn x0 x1 xf0 xf1 HBS0;obtain ⟨wn,hwn⟩:∃ W,W = wm:=⟨_,rfl⟩
    subst hwn;refine koq hK HBS.out (fun hHeld=>?_);clear hK K;refine wpAnyH_done (by kernel_rfl) ?_ _;clear hHeld;have HQN:Hid (Sm18q w gq (th ti + tsum18 th l (k + 1)) wn):=qz ⟨HO.out,F1,k1,s1,F2,k2,s2,HV.out,HR.out.congr HNX.out.symm⟩;have HN:=HBS;clear HXN HTJ HBS HO HV HR HSX HSY HNX;go_wp2_with fail;go_roundw
    case rel => exact ⟨k + 1,by go_num,by omega,HN,HQN⟩
    case measure => simp [intOf]; omega
   ·
    skip;have HBS0:=HBS;go_simp;refine (HTJ.out _ HBS0.out.b.b).mono ?_;rintro e wn ⟨E1,j1,o1,E2,j2,o2,rfl,hx,hy,hb⟩;have HBS:=qz (HBS0.out.step hb);have HO:=qz (HO.out.below hb HO.out.lt);have HV:=qz (HV.out.below hb HV.out.lt);have HN:=qz (HN.out.below hb);have HT:Hid (Qn18 wn _ (th j) E1 j1 o1 E2 j2 o2):=qz ⟨hx,hy⟩;clear hb HBS0 hx hy
    refine koq hK HBS.out (fun hHeld=>?_);clear hK K;refine rdy 0 (fun K hK => ?_);have p0:=HV.out.cell 0;have p1:=HV.out.cell 1;go_simp;refine koq hK HBS.out (fun hHeld=>?_);clear hK K;refine rdy 7 (fun K hK => ?_);have HBS0:=HBS;go_simp;refine (add18_q wn HN.out HT.out HSX.out HSY.out).mono ?_;rintro e wn ⟨F1,k1,s1,F2,k2,s2,rfl,hx,hy,hb⟩
    have HBS:=qz (HBS0.out.step hb);have HO:=qz (HO.out.below hb HO.out.lt);have HV:=qz (HV.out.below hb HV.out.lt);have hls:=HBS0.out.b.b.b.size;have HR:Hid (Qn18 wn w.heap.size ((th ti + tsum18 th l k) + th j) F1 k1 s1 F2 k2 s2):=qz (qn18_of hx hy hls);clear hls;clear hb HBS0 hx hy HT HN;refine koq hK HBS.out (fun hHeld=>?_);clear hK K
    refine rdy 8 (fun K hK => ?_);have x0:=HV.out.cell 0;have x1:=HV.out.cell 1;have xf0:=HV.out.frozen 0;have xf1:=HV.out.frozen 1;have HBS0:=HBS;go_simp;obtain ⟨wm,hwm⟩:=exq ((wn.setCell ⟨gq,0,none⟩ (.slice F1 k1 s1)).setCell ⟨gq,1,none⟩ (.slice F2 k2 s2));have hgn:w.heap.size + 1≠gq:=by omega
    have HBS:=qz (show Sr18 w S A0 A1 A2 A3 A4 n0 n1 n2 n3 n4 c0 c1 c2 c3 c4 sq (some ⟨ga,oa,none⟩) l wm by rw [<- hwm]; exact HBS0.out.put (by omega) HV.out _ _);have HR:=qz (show Qn18 wm w.heap.size _ F1 k1 s1 F2 k2 s2 by rw [<- hwm]; exact HR.out.put HV.out _ _)
    have HO:=qz (show Blk wm (w.heap.size + 1) 35 _ by rw [<- hwm]; exact (HO.out.far hgn _).far hgn _);have HV:=qz (show Blk wm gq 35 _ by rw [<- hwm]; exact put_Q HV.out (.slice F1 k1 s1) (.slice F2 k2 s2));rw [hwm];clear hwm hgn x0 x1 xf0 xf1 HBS0;obtain ⟨wn,hwn⟩:∃ W,W = wm:=⟨_,rfl⟩
    subst hwn;refine koq hK HBS.out (fun hHeld=>?_);clear hK K;refine wpAnyH_done (by kernel_rfl) ?_ _;clear hHeld;have HQN:Hid (Sm18q w gq (th ti + tsum18 th l (k + 1)) wn):=qz ⟨HO.out,F1,k1,s1,F2,k2,s2,HV.out,HR.out.congr HNX.out.symm⟩;have HN:=HBS;clear HXN HTJ HBS HO HV HR HSX HSY HNX;go_wp2_with fail;go_roundw
    case rel => exact ⟨k + 1,by go_num,by omega,HN,HQN⟩
    case measure => simp [intOf]; omega
  ·
   obtain rfl:m = k:=by omega
   have i1:¬ (m:Int) < (m:Int):=by omega
   obtain ⟨ho,D1,n1',t1,D2,n2',t2,hv,hn⟩:=HQ.out;have HB:=qz HS.out.b.b.b;have HO:=qz ho;have HN:=qz hn;have v0:=hv.cell 0;have v1:=hv.cell 1;have r0:=ho.cell 0;have r1:=ho.cell 1;have f0:=ho.frozen 0;have f1:=ho.frozen 1;clear ho hv hn HQ HS HTK HSQ HST;go_wp2_with fail;have hp:=put_Q HO.out (.slice D1 n1' t1) (.slice D2 n2' t2)
   have hfin:=HN.out.put HO.out (.slice D1 n1' t1) (.slice D2 n2' t2);rw [HEQ.out]
   exact bodyPost_ret (v:=.agg #[.slice D1 n1' t1,.slice D2 n2' t2]) (by simp [results,Tryz.results9,go_sem,hp.cell 0,hp.cell 1]) rfl
    ⟨_,_,_,_,_,_,rfl,hfin.1,hfin.2,(HB.out.setCell (by show w.heap.size<=w.heap.size + 1; omega) _).setCell (by show w.heap.size<=w.heap.size + 1; omega) _⟩
structure Be18 (w W:World):Prop where
 z:Below w.heap.size w W
theorem Be18.step {w W W':World} (h:Be18 w W) (hb:Below W.heap.size W W'):Be18 w W':=⟨h.z.trans (hb.mono h.z.size)⟩
theorem rsame18 (g n c:Nat) (A:Option Addr) (x:Nat->Rat) (w:World) (hq:Qr18 w g n (fun k => qr18 (x k))) (hd:QIn w A n (fun k => (qr18 (x k)).1) (fun k => (qr18 (x k)).2)) (hs:∀ k,k < n->Sq18 (x k)) (hn:n<=1000) :
  Calls Tryz.prog 11 #[.slice (some ⟨g,0,none⟩) n n,.slice A n c] w fun e w' => e = .returned (.bool true)/\Below w.heap.size w w':=by
 have HQ:=qz hq;have HD:=qz hd;have HS:=qz hs;have hself:((n:Int) != (n:Int)) = false:=by simp
 have HB0:Hid (Be18 w w):=qz ⟨Below.refl _ _⟩;clear hq hd hs;go_enter Tryz.func11,Tryz.ntmps11;go_wp2_with fail;go_loopw [5] (fun i wr => ∃ k:Nat,i = .int .i64 (k:Int)/\k<=n/\Hid (Be18 w wr)) (fun i _ => n - (intOf i).toNat)
 case atStart => exact ⟨0,rfl,by omega,HB0⟩
 case round =>
  clear HB0;obtain ⟨k,rfl,hk,HB⟩:=hrel;by_cases hkn:k < n
  ·
   have i0:(0:Int)<=(k:Int):=by omega
   have i1:(k:Int) < (n:Int):=by omega
   obtain ⟨C1,k1,r1,C2,k2,r2,e1,e2,v1,v2,_,_⟩:=HQ.out.cells hkn;obtain ⟨b,o,D1,j1,s1,D2,j2,s2,hA,d1,d2,⟨L1,u1⟩,⟨L2,u2⟩⟩:=HD.out k hkn;have HC1:=qz e1;have HC2:=qz e2;have HE1:=qz d1;have HE2:=qz d2
   have HSA:=qz (fun W (h:Below w.heap.size w W) => same4_r (j:=36) W (v1.below h) (v2.below h) (u1.below h) (u2.below h) (HS.out k hkn).2.1 (HS.out k hkn).2.2 (by omega));clear e1 e2 v1 v2 d1 d2 u1 u2;subst hA;have HXN:Hid (Be18 w wr.drew):=qz (HB.out.step (Below.refl _ _).drew);clear HB;obtain ⟨wn,hwn⟩:=exq wr.drew;rw [hwn] at HXN;go_wp2_with fail
   refine wp_region_held_drew (S:=Be18 w) (by kernel_rfl) (by rw [hwn]; exact HXN.out) (fun hHeld => ?_);rw [hwn] at hHeld ⊢;clear hwn;have HBS:=HXN;refine tkq 0 ?_;refine tkq 1 ?_;refine tkq 2 ?_;refine tk 3 (v:=?_) (fun W hS => ?_) ?_;rotate_left
   ·
    try dsimp only at hS
    have z0:=(hS.z.cell (World.block_lt_of_cell? _ _ HC1.out)).trans HC1.out;have z1:=(hS.z.cell (World.block_lt_of_cell? _ _ HC2.out)).trans HC2.out;go_simp
    try with_reducible rfl
   try simp only [Act.put,pt1,pt2,pt3]
   refine tkq 4 ?_;refine tkq 5 ?_;refine tkq 6 ?_;refine tk 7 (v:=?_) (fun W hS => ?_) ?_;rotate_left
   ·
    try dsimp only at hS
    have z0:=(hS.z.cell (World.block_lt_of_cell? _ _ HE1.out)).trans HE1.out;have z1:=(hS.z.cell (World.block_lt_of_cell? _ _ HE2.out)).trans HE2.out;go_simp
    try with_reducible rfl
   try simp only [Act.put,pt1,pt2,pt3]
   refine rdy 8 (fun K hK => ?_);have HBS0:=HBS;go_simp;refine (HSA.out _ HBS0.out.z).mono ?_;rintro e wn ⟨rfl,hb⟩;have HBS:=qz (HBS0.out.step hb);clear hb HBS0;refine koq hK HBS.out (fun hHeld=>?_);clear hK K;refine tkq 9 ?_;refine wpAnyH_done (by kernel_rfl) ?_ _;clear hHeld;have HN:=HBS;clear HXN HSA HBS HC1 HC2 HE1 HE2;go_wp2_with fail;go_roundw
   case rel => exact ⟨k + 1,by go_num,by omega,HN⟩
   case measure => simp [intOf]; omega
  ·
   obtain rfl:n = k:=by omega
   have i1:¬ (n:Int) < (n:Int):=by omega
   go_wp2_with fail;go_ret;exact ⟨rfl,HB.out.z⟩
theorem RetQ.q0 {w w':World} {n d:Nat} {e:Ending} (h:RetQ w n d e w'):RetQ0 w n d e w':=by
 obtain ⟨A1,n1,c1,A2,n2,c2,h1,h2,h3,h4⟩:=h;exact ⟨A1,n1,c1,A2,n2,c2,h1,h2.more (Nat.zero_le _),h3.more (Nat.zero_le _),h4⟩
def Fs18 (wc wn:World) (l:List (Nat × TypeId × Array Value)):Prop:=Below wc.heap.size wc wn/\∀ p,p∈l->Blk wn p.1 p.2.1 p.2.2/\wc.heap.size<=p.1
theorem Fs18.ca {wc wn w2:World} {l:List (Nat × TypeId × Array Value)} (h:Fs18 wc wn l) (hb:Below wn.heap.size wn w2):Fs18 wc w2 l:=⟨h.1.trans (hb.mono h.1.size),fun p hp => ⟨(h.2 p hp).1.below hb (h.2 p hp).1.lt,(h.2 p hp).2⟩⟩
theorem Fs18.al {wc wn:World} (l1 l2:List (Nat × TypeId × Array Value)) (h:Fs18 wc wn (l1 ++ l2)) (cs:Array Value) (t:TypeId):Fs18 wc (wn.alloc (.cells cs t)) (l1 ++ (wn.heap.size,t,cs) :: l2):=by
 have h1:=h.ca (b1' wn (.cells cs t));refine ⟨h1.1,fun p hp => ?_⟩;rcases List.mem_append.1 hp with hp | hp
 · exact h1.2 p (List.mem_append.2 (.inl hp))
 ·
  rcases List.mem_cons.1 hp with rfl | hp
  · exact ⟨Blk.new _ _ _,h.1.size⟩
  · exact h1.2 p (List.mem_append.2 (.inr hp))
section
variable {t0 t1 t2 t3 t4 t5 t6 t7 t8 t9 t10 t11 t12 t13 t14 t15 t16 t17 t18 t19 t20 t21 t22 t23 t24 t25 t26 t27 t28 t29 t30 t31 t32 t33 t34 t35 t36 t37 t38 t39 t40 t41 t42 t43 t44:Value}
variable {Q:Exit->Act->World->Prop}
end
theorem int18_00 (W:World):Calls Tryz.prog 10 #[.int .u64 0] W (RetDB W 0 1):=int4_b 0 W (by omega)
theorem same18 {A1 A2 B1 B2:Option Addr} {n1 c1 n2 c2 i1 e1 i2 e2 a b lo lo':Nat} (w:World) (h1:Nv w 0 (.slice A1 n1 c1) a) (h2:Nv w 0 (.slice A2 n2 c2) b) (h3:∃ L,lo<=L/\Num w L (.agg #[.slice B1 i1 e1]) a) (h4:∃ L,lo'<=L/\Num w L (.agg #[.slice B2 i2 e2]) b) (ha:a < 65536 ^ 36) (hb:b < 65536 ^ 36) :
  Calls Tryz.prog 13 #[.agg #[.slice A1 n1 c1,.slice A2 n2 c2],.agg #[.slice B1 i1 e1,.slice B2 i2 e2]] w fun e w' => e = .returned (.bool true)/\Below w.heap.size w w':=by
 obtain ⟨L3,_,h3⟩:=h3;obtain ⟨L4,_,h4⟩:=h4;exact same4_r (j:=36) w h1 h2 h3 h4 ha hb (by omega)
end
end Go.Proofs.YtkdmnlihpebbkaaGreat
