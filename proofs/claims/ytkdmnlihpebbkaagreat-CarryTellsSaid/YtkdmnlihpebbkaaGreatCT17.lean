import Derived.Test.YtkdmnlihpebbkaaGreatCT16
import Derived.Maps.Views
set_option linter.all false
set_option maxHeartbeats 4000000
namespace Go.Proofs.YtkdmnlihpebbkaaGreat
section
open Go.RowKit
set_option maxRecDepth 100000
theorem fine16_lock {S:Sv14} (hf:Fine14 S):∀ j,j < S.H.length->(gt14 S.H j).s = 6->us14 usL S.L (gt14 S.H j).f = true:=by
 intro j hj h6;have hth:=(hf.2.2.2.2.2.1.1 j hj (by rw [usH,h6]; rfl)).1;rcases hth with h | h | h
 · rw [h.1] at h6; cases h6
 · exact h.2
 · have:=h.1; omega
theorem arr16_mem {l:List (Int × Int)} {k:Nat} (hk:k < l.length):arr l k∈l:=by
 have e:arr l k = l[k]:=by simp [arr,List.getElem?_eq_getElem hk]
 rw [e];exact List.getElem_mem hk
theorem fnx16 {S:Sv14} {k:Nat} {i:Int} (hk:k < (tArr14 S S.H.length).length) (h:(arr (tArr14 S S.H.length) k).1 = i):(arr (tArr14 S S.H.length) k).2 = nxt16 S i:=by
 have h1:(i,(arr (tArr14 S S.H.length) k).2)∈tArr14 S S.H.length:=by
  rw [<- h];exact arr16_mem hk
 obtain ⟨j,hj,rfl,_⟩:=tarr16_mem.1 h1;exact ((nxt16_arr hj).1 h1).2.symm
theorem fnx16_no {S:Sv14} {i:Int} (hf:Fine14 S) (h:∀ k,k < (tArr14 S S.H.length).length->(arr (tArr14 S S.H.length) k).1≠i):nxt16 S i = -1:=by
 rcases nxt16_used hf i with h1 | ⟨h1,h2⟩
 · exact h1
 ·
  exfalso
  have hu:us14 usH S.H i = true:=by
   cases hu:us14 usH S.H i with
   | true => rfl
   | false => rw [nxt16_no hu,tl16_neg] at h1; cases h1
  have hin:=ush16_lt hu;obtain ⟨q,rfl⟩:∃ q:Nat,i = (q:Int):=⟨i.toNat,by omega⟩
  rw [at14_yes hu,Int.toNat_natCast] at h2;have hm:((q:Int),nxt16 S (q:Int))∈tArr14 S S.H.length:=(nxt16_arr (by omega)).2 ⟨h2,rfl⟩;obtain ⟨k,hk,he⟩:=List.getElem_of_mem hm;refine h k hk ?_;have e:arr (tArr14 S S.H.length) k = (tArr14 S S.H.length)[k]:=by simp [arr,List.getElem?_eq_getElem hk]
  rw [e,he]
theorem rnext16 (v:Value) (S:Sv14) (i:Int) (w:World) (h:St14 w v S) (hf:Fine14 S) :
  Calls Tryz.prog 20 #[v,.int .i64 i] w fun e w' => e = .returned (.int .i64 (nxt16 S i))/\Below w.heap.size w w':=by
 obtain ⟨A0,A1,A2,A3,A4,n0,n1,n2,n3,n4,c0,c1,c2,c3,c4,sq,rfl,hs⟩:=h;have hx0:=Bx14.new hs;have hxn:=hx0.step (Below.refl _ _).drew;obtain ⟨W1,hW1⟩:=exq (w.alloc (.cells #[.slice A0 n0 c0,.slice A1 n1 c1,.slice A2 n2 c2,.slice A3 n3 c3,.slice A4 n4 c4,.int .i64 sq] 28));rw [hW1] at hx0 hxn;have HX0:=qz hx0;obtain ⟨p0,p1,p2,p3,p4,p5⟩:=ce6 hx0.x
 obtain ⟨m,hm⟩:=exq ((tArr14 S S.H.length).length);have hmn:m<=1000000:=by have:=tArr14_len S S.H.length; have:=hs.l2; have:=hs.m2; omega
 have HT:=qz (fun W h => rthreadArrows14 (.agg #[.slice A0 n0 c0,.slice A1 n1 c1,.slice A2 n2 c2,.slice A3 n3 c3,.slice A4 n4 c4,.int .i64 sq]) S W h (fine16_lock hf));have HF:=qz hf;have HM:=qz hm;clear hs hx0 hxn hf hm;go_enter Tryz.func20,Tryz.ntmps20;go_wp2_with fail;refine (HT.out _ HX0.out.st).mono ?_;rintro e u1 ⟨A,c,rfl,hr,hb1⟩;have HR:=qz hr
 have HB1:=qz (HX0.out.b.trans (hb1.mono HX0.out.b.size));rw [HM.out];clear hb1 HT HX0 p0 p1 p2 p3 p4 p5 hW1 hr;go_wp2_with fail;go_loopw [6] (fun v wr => ∃ k:Nat,v = .int .i64 (k:Int)/\k<=m/\Hid (∀ q,q < k->(arr (tArr14 S S.H.length) q).1≠i)/\Hid (Below u1.heap.size u1 wr)) (fun v _ => m - (intOf v).toNat)
 case atStart => exact ⟨0,rfl,by omega,qz (fun q h => by omega),qz (Below.refl _ _)⟩
 case round =>
  obtain ⟨k,rfl,hk,HN,HG⟩:=hrel;by_cases hkm:k < m
  ·
   obtain ⟨ba,o,hA,hab,c0,c1⟩:=Aq.at_ (Rv.below HR.out HG.out (Nat.le_refl _)) (show k < (tArr14 S S.H.length).length by rw [HM.out]; exact hkm);subst hA;obtain ⟨fi,hfi⟩:=exq ((arr (tArr14 S S.H.length) k).1);obtain ⟨ti,hti⟩:=exq ((arr (tArr14 S S.H.length) k).2);have HI:=qz hfi;have HJ:=qz hti;rw [hfi] at c0;rw [hti] at c1
   have i0:(0:Int)<=(k:Int):=by omega
   have i1:(k:Int) < (m:Int):=by omega
   clear hfi hti hab;by_cases hi:fi = i
   ·
    have hib:(fi == i) = true:=by simp [hi]
    have HE:Hid (nxt16 S i = ti):=qz (by rw [<- HJ.out]; exact (fnx16 (by rw [HM.out]; exact hkm) (by rw [HI.out]; exact hi)).symm);clear hi;go_wp2_with fail;go_ret;exact ⟨by rw [HE.out]; rfl,HB1.out.trans (HG.out.mono HB1.out.size)⟩
   ·
    have hib:(fi == i) = false:=by simp [hi]
    have HNI:=qz hi;clear hi;go_wp2_with fail;go_roundw
    case rel => exact ⟨k + 1,by go_num,by omega,qz (fun q hq => by
     rcases (show q < k\/q = k by omega) with h5 | h5
     · exact HN.out q h5
     · rw [h5,HI.out]; exact HNI.out),HG⟩
    case measure => simp [intOf]; omega
  ·
   obtain rfl:k = m:=by omega
   have i1:¬ (k:Int) < (k:Int):=by omega
   have HE:Hid (nxt16 S i = -1):=qz (fnx16_no HF.out (by rw [HM.out]; exact HN.out));go_wp2_with fail;go_ret;exact ⟨by rw [HE.out]; rfl,HB1.out.trans (HG.out.mono HB1.out.size)⟩
theorem one16_own (W:World) (L:Nat) (x:Nat) (hL:L<=W.heap.size):(W.alloc (.cells #[.int .i64 (x:Int)] 3)).ownsRow L 3 1 (.slice (some ⟨W.heap.size,0,none⟩) 1 1) 1 (ints [x]) :=
 ⟨by simp [ints],.inr ⟨W.heap.size,1,#[.int .i64 (x:Int)],rfl,hL,heap_alloc_new W _,by omega,by decide,by simp,by simp [ints]⟩⟩
theorem rtail16 (l:List Nat):∀ (v:Value) (S:Sv14) (i:Int) (w:World) (_:St14 w v S) (_:Fine14 S) (_:Tl16 S i l),
  Calls Tryz.prog 98 #[v,.int .i64 i] w (RetR15 w l):=by
 induction l with
 | nil =>
  intro v S i w h hf hl;obtain ⟨A0,A1,A2,A3,A4,n0,n1,n2,n3,n4,c0,c1,c2,c3,c4,sq,rfl,hs⟩:=h;have hx0:=Bx14.new hs;have hxn:=hx0.step (Below.refl _ _).drew;obtain ⟨W1,hW1⟩:=exq (w.alloc (.cells #[.slice A0 n0 c0,.slice A1 n1 c1,.slice A2 n2 c2,.slice A3 n3 c3,.slice A4 n4 c4,.int .i64 sq] 28));rw [hW1] at hx0 hxn
  have HP:Hid (RetR15 w [] = fun e w' => ∃ A c,e = .returned (.slice A 0 c)/\Rd w' w'.heap.size A []/\Below w.heap.size w w'):=qz rfl;have HX0:=qz hx0;obtain ⟨p0,p1,p2,p3,p4,p5⟩:=ce6 hx0.x;have HU:=qz (fun W h => rThread14 (.agg #[.slice A0 n0 c0,.slice A1 n1 c1,.slice A2 n2 c2,.slice A3 n3 c3,.slice A4 n4 c4,.int .i64 sq]) S i false W h (hl.nil.1 rfl))
  clear hs hx0 hxn hf hl;go_enter Tryz.func98,Tryz.ntmps98;go_wp2_with fail;refine (HU.out _ HX0.out.st).mono ?_;rintro e u1 ⟨rfl,hb1⟩;have HB1:=qz (HX0.out.b.trans (hb1.mono HX0.out.b.size));clear hb1 HU HX0 p0 p1 p2 p3 p4 p5 hW1;go_wp2_with fail;go_ret;rw [HP.out]
  exact ⟨none,0,rfl,fun hx => absurd rfl hx,HB1.out⟩
 | cons k r ih =>
  intro v S i w h hf hl;obtain ⟨A0,A1,A2,A3,A4,n0,n1,n2,n3,n4,c0,c1,c2,c3,c4,sq,rfl,hs⟩:=h;have hx0:=Bx14.new hs;have hxn:=hx0.step (Below.refl _ _).drew;obtain ⟨W1,hW1⟩:=exq (w.alloc (.cells #[.slice A0 n0 c0,.slice A1 n1 c1,.slice A2 n2 c2,.slice A3 n3 c3,.slice A4 n4 c4,.int .i64 sq] 28));rw [hW1] at hx0 hxn
  have HP:Hid (RetR15 w (k :: r) = fun e w' => ∃ A c,e = .returned (.slice A (r.length + 1) c)/\Rd w' w'.heap.size A (k :: r)/\Below w.heap.size w w'):=qz rfl;have HX0:=qz hx0;obtain ⟨p0,p1,p2,p3,p4,p5⟩:=ce6 hx0.x
  have hu:us14 usH S.H i = true:=by
   cases hu:us14 usH S.H i with
   | true => rfl
   | false => cases hl.no hu
  obtain ⟨k2,r2,hik,he,ht⟩:=hl.cons hf hu;injection he with hk hr
  subst hk hr hik;have HU:=qz (fun W h => rThread14 (.agg #[.slice A0 n0 c0,.slice A1 n1 c1,.slice A2 n2 c2,.slice A3 n3 c3,.slice A4 n4 c4,.int .i64 sq]) S (k:Int) true W h hu);have HN:=qz (fun W h => rnext16 (.agg #[.slice A0 n0 c0,.slice A1 n1 c1,.slice A2 n2 c2,.slice A3 n3 c3,.slice A4 n4 c4,.int .i64 sq]) S (k:Int) W h hf)
  have HI:=qz (fun W h => ih (.agg #[.slice A0 n0 c0,.slice A1 n1 c1,.slice A2 n2 c2,.slice A3 n3 c3,.slice A4 n4 c4,.int .i64 sq]) S (nxt16 S (k:Int)) W h hf ht);have HLN:Hid (r.length<=1000):=qz (by have:=hl.len hf; have:=hs.l2; have:=hs.m2; simp at *; omega);have HT:=qz ht;have hnu:=nxt16_used hf (k:Int);clear hs hx0 hxn hf hl ih hu ht
  go_enter Tryz.func98,Tryz.ntmps98;go_wp2_with fail;refine (HU.out _ HX0.out.st).mono ?_;rintro e u1 ⟨rfl,hb1⟩;have HX1:=qz (HX0.out.step hb1);obtain ⟨q0,q1,q2,q3,q4,q5⟩:=ce6 HX1.out.x;clear hb1 HU HX0 p0 p1 p2 p3 p4 p5 hW1;go_wp2_with fail;refine (HN.out _ HX1.out.st).mono ?_;rintro e u2 ⟨rfl,hb2⟩;have HX2:=qz (HX1.out.step hb2)
  obtain ⟨y0,y1,y2,y3,y4,y5⟩:=ce6 HX2.out.x;clear hb2 HN HX1 q0 q1 q2 q3 q4 q5;obtain ⟨nx,hnx⟩:=exq (nxt16 S (k:Int));rw [hnx] at HT HI hnu ⊢;clear hnx;rcases hnu with h0 | h0
  ·
   subst h0;have HE:Hid (r = []):=qz (HT.out.no (tl16_neg S));have hb3:=b1' u2 (.cells #[.int .i64 (k:Int)] 3);have HR:Hid (Rd (u2.alloc (.cells #[.int .i64 (k:Int)] 3)) (u2.alloc (.cells #[.int .i64 (k:Int)] 3)).heap.size (some ⟨u2.heap.size,0,none⟩) [k]):=qz (rd15_own (one16_own u2 0 k (by omega)) rfl)
   have HB3:=qz (HX2.out.b.trans (hb3.mono HX2.out.b.size));clear hb3;go_wp2_with fail;go_ret;rw [HP.out,HE.out];exact ⟨_,1,rfl,HR.out,HB3.out⟩
  ·
   have hge:0<=nx:=(ush16_lt h0.1).1;have hlt:¬ nx < 0:=by omega
   have hb3:=b1' u2 (.cells #[.int .i64 (k:Int)] 3);have HX3:=qz (HX2.out.step hb3);have HO:=qz (one16_own u2 (w.heap.size + 1) k (by have:=HX2.out.x.lt; omega));obtain ⟨z0,z1,z2,z3,z4,z5⟩:=ce6 HX3.out.x;obtain ⟨g,hg⟩:=exq u2.heap.size;obtain ⟨u3,hu3⟩:=exq (u2.alloc (.cells #[.int .i64 (k:Int)] 3));rw [hu3] at HX3 HO z0 z1 z2 z3 z4 z5;rw [hg] at HO
   clear h0 hge hb3 y0 y1 y2 y3 y4 y5;go_wp2_with fail;refine (HI.out _ HX3.out.st).mono ?_;rintro e u4 ⟨A,c,rfl,hr,hb4⟩;have HX4:=qz (HX3.out.step hb4);have ho4:=own7_keep HO.out hb4;have hsz:=HX4.out.x.lt
   obtain ⟨Az,cz,W2,hrun,hown,hgr⟩:=run_append_14 (P:=Tryz.prog) u4 (w.heap.size + 1) 26 26 3 _ 1 8 Tryz.underlying26 info_int11 rfl (by omega) (by omega) _ 1 _ ho4 u4.heap.size A (ints r) r.length c (by simp [ints]) hr.rv11 (ints_one r) (by have:=HLN.out; omega) (by omega)
   have hW2:Below (w.heap.size + 1) u4 W2:=(Below.refl _ _).grown hgr (by omega) (fun q hq => (ho4.lt q hq).1);have HB2:=qz (HX4.out.b.trans (hW2.mono (by omega)));rw [Nat.add_comm 1 r.length] at hrun hown;rw [<- ints_append,List.singleton_append] at hown;have HRD:=qz (rd15_own hown (by simp));have HRUN:=qz hrun
   clear hb4 HI hr ho4 hsz hrun hown hgr hW2 HX3 HX4 HO z0 z1 z2 z3 z4 z5;go_wp2_with (at_builtin; go_loud (refine wpList_append_14 _ rfl (.tmp 18) (.tmp 21) 26 rfl _ _ _ _ rfl rfl HRUN.out ?_));go_ret;rw [HP.out];exact ⟨Az,cz,rfl,HRD.out,HB2.out⟩
theorem rend16 (v:Value) (S:Sv14) (i:Int) (l:List Nat) (w:World) (h:St14 w v S) (hf:Fine14 S) (hl:Tl16 S i l) :
  Calls Tryz.prog 82 #[v,.int .i64 i] w fun e w' => e = .returned (.int .i64 (en16 l))/\Below w.heap.size w w':=by
 obtain ⟨A0,A1,A2,A3,A4,n0,n1,n2,n3,n4,c0,c1,c2,c3,c4,sq,rfl,hs⟩:=h;have hx0:=Bx14.new hs;have hxn:=hx0.step (Below.refl _ _).drew;obtain ⟨W1,hW1⟩:=exq (w.alloc (.cells #[.slice A0 n0 c0,.slice A1 n1 c1,.slice A2 n2 c2,.slice A3 n3 c3,.slice A4 n4 c4,.int .i64 sq] 28));rw [hW1] at hx0 hxn;have HX0:=qz hx0;obtain ⟨p0,p1,p2,p3,p4,p5⟩:=ce6 hx0.x
 have HLN:Hid (l.length<=1000000):=qz (by have:=hl.len hf; have:=hs.l2; have:=hs.m2; omega);have HT:=qz (fun W h => rtail16 l (.agg #[.slice A0 n0 c0,.slice A1 n1 c1,.slice A2 n2 c2,.slice A3 n3 c3,.slice A4 n4 c4,.int .i64 sq]) S i W h hf hl);clear hs hx0 hxn hf hl;go_enter Tryz.func82,Tryz.ntmps82;go_wp2_with fail;refine (HT.out _ HX0.out.st).mono ?_
 rintro e u1 ⟨A,c,rfl,hr,hb1⟩;have HB1:=qz (HX0.out.b.trans (hb1.mono HX0.out.b.size));clear hb1 HT HX0 p0 p1 p2 p3 p4 p5 hW1;by_cases hl0:l = []
 ·
  subst hl0;have HE:Hid (en16 [] = -1):=qz rfl;clear hr;go_wp2_with fail;go_ret;exact ⟨by rw [HE.out]; rfl,HB1.out⟩
 ·
  obtain ⟨d,hd⟩:∃ d,l.length = d + 1:=⟨l.length - 1,by have:=List.length_pos_iff.2 hl0; omega⟩
  obtain ⟨a,of,hA,hab,hq⟩:=hr.at_ (show d < l.length by omega);subst hA;have HE:Hid (en16 l = ((nth l d:Nat):Int)):=qz (by rw [en16,if_neg hl0,lst16,hd]; rfl);have hnz:(((d + 1:Nat):Int) == 0) = false:=by simp; omega
  have hdm:d + 1<=1000000:=by have:=HLN.out; omega
  rw [hd];clear hr hab hd hl0;have i0:(0:Int)<=(d:Int):=by omega
  have i1:(d:Int) < ((d + 1:Nat):Int):=by omega
  have hsb:((d + 1:Nat):Int) - 1 = (d:Int):=by omega
  go_wp2_with fail;go_ret;exact ⟨by rw [HE.out]; rfl,HB1.out⟩
theorem rlives16 (v:Value) (S:Sv14) (i:Int) (l:List Nat) (w:World) (h:St14 w v S) (hf:Fine14 S) (hl:Tl16 S i l) :
  Calls Tryz.prog 60 #[v,.int .i64 i] w fun e w' => e = .returned (.bool (lv16 S (en16 l)))/\Below w.heap.size w w':=by
 obtain ⟨A0,A1,A2,A3,A4,n0,n1,n2,n3,n4,c0,c1,c2,c3,c4,sq,rfl,hs⟩:=h;have hx0:=Bx14.new hs;have hxn:=hx0.step (Below.refl _ _).drew;obtain ⟨W1,hW1⟩:=exq (w.alloc (.cells #[.slice A0 n0 c0,.slice A1 n1 c1,.slice A2 n2 c2,.slice A3 n3 c3,.slice A4 n4 c4,.int .i64 sq] 28));rw [hW1] at hx0 hxn;have HX0:=qz hx0;obtain ⟨p0,p1,p2,p3,p4,p5⟩:=ce6 hx0.x
 have hus:=en16_used hf hl;have HT:=qz (fun W h => rend16 (.agg #[.slice A0 n0 c0,.slice A1 n1 c1,.slice A2 n2 c2,.slice A3 n3 c3,.slice A4 n4 c4,.int .i64 sq]) S i l W h hf hl);obtain ⟨en,hen⟩:=exq (en16 l);rw [hen] at hus HT ⊢;have HL2:=qz hs.l2;have hnm:n2<=1000:=by have:=hs.m2; omega
 have hge:en < 0->en = -1:=by
  intro h
  cases hu:us14 usH S.H i with
  | false => rw [<- hen]; exact en16_no (hl.no hu)
  | true => rw [hu] at hus; have:=ush16_lt hus; omega
 have hu1:0<=en->us14 usH S.H en = true:=by
  intro h
  cases hu:us14 usH S.H i with
  | true => rw [hus,hu]
  | false => rw [<- hen,en16_no (hl.no hu)] at h; omega
 clear hs hx0 hxn hf hl hus hen;go_enter Tryz.func60,Tryz.ntmps60;go_wp2_with fail;refine (HT.out _ HX0.out.st).mono ?_;rintro e u1 ⟨rfl,hb1⟩;have HX1:=qz (HX0.out.step hb1);obtain ⟨q0,q1,q2,q3,q4,q5⟩:=ce6 HX1.out.x;clear hb1 HT HX0 p0 p1 p2 p3 p4 p5 hW1;by_cases h0:0<=en
 ·
  have hu:=hu1 h0;have hin:=ush16_lt hu;obtain ⟨k,rfl⟩:∃ k:Nat,en = (k:Int):=⟨en.toNat,by omega⟩
  obtain ⟨a,of,hA,hab,hq⟩:=Lq.at_ len14H (by omega) HX1.out.s.r2 (show k < S.H.length by omega);subst hA;obtain ⟨x,hx⟩:=exq (gt14 S.H k);rw [hx] at hq;obtain ⟨xz,xf,xc,xq,xu⟩:=x;have e0:u1.cell? ⟨a,of + k * 5,none⟩ = some (.int .i64 xz):=hq 0 _ rfl;have HE:Hid (lv16 S (k:Int) = ((xz == 2) || (xz == 3))):=qz (by rw [lv16,at14_yes hu,Int.toNat_natCast,hx])
  have i1:(k:Int) < (n2:Int):=by have:=HL2.out; omega
  have hgb:decide ((k:Int)≥0) = true:=by simp
  clear hq hx hab hge hu1 hu hin;by_cases z2:xz = 2
  ·
   subst z2;go_wp2_with fail;go_ret;exact ⟨by rw [HE.out]; rfl,HX1.out.b⟩
  ·
   have z2b:(xz == 2) = false:=by simp [z2]
   rw [z2b] at HE;go_wp2_with fail;go_ret;exact ⟨by rw [HE.out]; rfl,HX1.out.b⟩
 ·
  obtain rfl:=hge (by omega);have HE:Hid (lv16 S (-1) = false):=qz (lv16_no (tl16_neg S));clear hge hu1 h0;go_wp2_with fail;go_ret;exact ⟨by rw [HE.out]; rfl,HX1.out.b⟩
theorem rlives17 (v:Value) (S:Sv14) (i:Int) (w:World) (h:St14 w v S) (hf:Fine14 S) :
  Calls Tryz.prog 60 #[v,.int .i64 i] w fun e w' => e = .returned (.bool (livb17 S i))/\Below w.heap.size w w':=by
 obtain ⟨l,hl⟩:=tl16_ex hf i;rw [<- lv17_of hf hl];exact rlives16 v S i l w h hf hl
def k2c17 (S:Sv14):Nat->Nat
 | 0 => 0
 | n + 1 => k2c17 S n + if (gt14 S.T n).k = 2 then 1 else 0
theorem k2c17_le (S:Sv14):∀ n,k2c17 S n<=n
 | 0 => Nat.le_refl _
 | n + 1 => by
  have:=k2c17_le S n;rw [k2c17];split <;> omega
def light17 (S:Sv14):Bool:=decide (S.T.length<=30) && decide (k2c17 S S.T.length<=8)
theorem rlight17 (v:Value) (S:Sv14) (w:World) (h:St14 w v S) :
  Calls Tryz.prog 6 #[v] w fun e w' => e = .returned (.bool (light17 S))/\Below w.heap.size w w':=by
 obtain ⟨A0,A1,A2,A3,A4,n0,n1,n2,n3,n4,c0,c1,c2,c3,c4,sq,rfl,hs⟩:=h;have hx0:=Bx14.new hs;have hxn:=hx0.step (Below.refl _ _).drew;obtain ⟨W1,hW1⟩:=exq (w.alloc (.cells #[.slice A0 n0 c0,.slice A1 n1 c1,.slice A2 n2 c2,.slice A3 n3 c3,.slice A4 n4 c4,.int .i64 sq] 28));rw [hW1] at hx0 hxn;have HX0:=qz hx0;have t1:=hx0.x.cell 1;have HL1:=qz hs.l1
 have hm1:=hs.m1;have HK:=qz (k2c17_le S);clear hs hx0 hxn;go_enter Tryz.func6,Tryz.ntmps6;go_wp2_with fail;clear t1;go_loopw [3,4] (fun n i wr => ∃ k z:Nat,n = .int .i64 (z:Int)/\i = .int .i64 (k:Int)/\k<=n1/\z<=k/\Hid (k2c17 S k = z)/\Hid (Bx14 w S A0 A1 A2 A3 A4 n0 n1 n2 n3 n4 c0 c1 c2 c3 c4 sq wr)) (fun _ i _ => n1 - (intOf i).toNat)
 case atStart => exact ⟨0,0,rfl,rfl,by omega,by omega,qz rfl,HX0⟩
 case round =>
  clear HX0;obtain ⟨k,z,rfl,rfl,hk,hzk,HZ,HW⟩:=hrel;by_cases hkn:k < n1
  ·
   obtain ⟨a,of,hA,hab,hq⟩:=Lq.at_ len14T (by omega) HW.out.s.r1 (show k < S.T.length by have:=HL1.out; omega);have t1:wr.cell? ⟨w.heap.size,1,none⟩ = some (.slice (some ⟨a,of,none⟩) n1 c1):=by rw [<- hA]; exact HW.out.x.cell 1
   have e3:wr.cell? ⟨a,of + k * 6 + 3,none⟩ = some (.int .i64 (gt14 S.T k).k):=hq 3 _ rfl;obtain ⟨xk,hxk⟩:=exq ((gt14 S.T k).k);have HN:Hid (k2c17 S (k + 1) = z + if xk = 2 then 1 else 0):=qz (by rw [k2c17,HZ.out,hxk]);rw [hxk] at e3;have i0:(0:Int)<=(k:Int):=by omega
   have i1:(k:Int) < (n1:Int):=by omega
   clear hxk hq hab hA;by_cases h2:xk = 2
   ·
    have HN2:Hid (k2c17 S (k + 1) = z + 1):=qz (by rw [HN.out,if_pos h2]);subst h2;clear HN HZ;go_wp2_with fail;go_roundw
    case rel => exact ⟨k + 1,z + 1,by go_num,by go_num,by omega,by omega,HN2,HW⟩
    case measure => simp [intOf]; omega
   ·
    have HN2:Hid (k2c17 S (k + 1) = z):=qz (by rw [HN.out,if_neg h2]; rfl);have h2b:(xk == 2) = false:=by simp [h2]
    clear HN HZ h2;go_wp2_with fail;go_roundw
    case rel => exact ⟨k + 1,z,rfl,by go_num,by omega,by omega,HN2,HW⟩
    case measure => simp [intOf]; omega
  ·
   obtain rfl:k = n1:=by omega
   have t1:=HW.out.x.cell 1;have h1:¬ (k:Int) < (k:Int):=by omega
   by_cases h30:k<=30
   ·
    have h30i:(k:Int)<=30:=by omega
    have HE:Hid (light17 S = decide ((z:Int)<=8)):=qz (by
     unfold light17;rw [HL1.out,HZ.out,decide_eq_true h30,Bool.true_and]
     exact decide_eq_decide.2 (by omega))
    go_wp2_with fail;go_ret;exact ⟨by rw [HE.out]; first | rfl | simp,HW.out.b⟩
   ·
    have h30i:¬ (k:Int)<=30:=by omega
    have h30b:decide ((k:Int)<=30) = false:=by simp; omega
    have h30c:decide (k<=30) = false:=by simp; omega
    have HE:Hid (light17 S = false):=qz (by
     unfold light17
     rw [HL1.out,h30c,Bool.false_and])
    go_wp2_with fail;go_ret;exact ⟨by rw [HE.out]; first | rfl | simp,HW.out.b⟩
theorem rcounts17_of (v:Value) (S:Sv14) (k:Nat) (w:World) (h:St14 w v S) (hf:Fine14 S) (hk:k < S.T.length)
  (hA:(gt14 S.T k).u = true->(gt14 S.T k).o = true->(gt14 S.T k).k = 2->∀ W,St14 W v S->Calls Tryz.prog 19 #[v,.int .i64 (gt14 S.T k).t] W fun e w' => e = .returned (.int .i64 (amt17 S (gt14 S.T k).t S.T.length))/\Below W.heap.size W w') :
  Calls Tryz.prog 40 #[v,.int .i64 (k:Int)] w fun e w' => e = .returned (.bool (cntb17 S k))/\Below w.heap.size w w':=by
 obtain ⟨A0,A1,A2,A3,A4,n0,n1,n2,n3,n4,c0,c1,c2,c3,c4,sq,rfl,hs⟩:=h;have hx0:=Bx14.new hs;have hxn:=hx0.step (Below.refl _ _).drew;obtain ⟨W1,hW1⟩:=exq (w.alloc (.cells #[.slice A0 n0 c0,.slice A1 n1 c1,.slice A2 n2 c2,.slice A3 n3 c3,.slice A4 n4 c4,.int .i64 sq] 28));rw [hW1] at hx0 hxn;have hl1:=hs.l1;have hm1:=hs.m1;have hT:=hf.2.2.2.2.1
 obtain ⟨a,of,hAd,hab,hq⟩:=Lq.at_ len14T (by omega) hx0.s.r1 hk;have t1:W1.cell? ⟨w.heap.size,1,none⟩ = some (.slice (some ⟨a,of,none⟩) n1 c1):=by rw [<- hAd]; exact hx0.x.cell 1
 have HCI:Hid (cntb17 S k = true↔k < S.T.length/\(gt14 S.T k).u = true/\(gt14 S.T k).o = true/\((gt14 S.T k).k = 1/\Liv16 S (gt14 S.T k).t\/(gt14 S.T k).k = 2/\∃ j,(gt14 S.T j).c = (gt14 S.T k).t/\Cnt17 S j)):=qz (by rw [cntb17_yes,cnt17_iff]);have HAL:=qz (amt17_all hT (gt14 S.T k).t);obtain ⟨x,hx⟩:=exq (gt14 S.T k);rw [hx] at hq hA HCI HAL
 obtain ⟨xu,xc,xa,xk,xt,xo⟩:=x;dsimp only at hA HCI HAL;have e0:W1.cell? ⟨a,of + k * 6,none⟩ = some (.bool xu):=hq 0 _ rfl;have e1:W1.cell? ⟨a,of + k * 6 + 1,none⟩ = some (.int .i64 xc):=hq 1 _ rfl;have e2:W1.cell? ⟨a,of + k * 6 + 2,none⟩ = some (.int .i64 xa):=hq 2 _ rfl;have e3:W1.cell? ⟨a,of + k * 6 + 3,none⟩ = some (.int .i64 xk):=hq 3 _ rfl
 have e4:W1.cell? ⟨a,of + k * 6 + 4,none⟩ = some (.int .i64 xt):=hq 4 _ rfl;have e5:W1.cell? ⟨a,of + k * 6 + 5,none⟩ = some (.bool xo):=hq 5 _ rfl;have i0:(0:Int)<=(k:Int):=by omega
 have i1:(k:Int) < (n1:Int):=by omega
 have hz1:W1.heap.size = w.heap.size + 1:=by rw [<- hW1]; simp
 have hx2:=hx0.step (b1' W1 (.cells #[.bool xu,.int .i64 xc,.int .i64 xa,.int .i64 xk,.int .i64 xt,.bool xo] 55));have hv:=Blk.new W1 55 #[.bool xu,.int .i64 xc,.int .i64 xa,.int .i64 xk,.int .i64 xt,.bool xo];rw [hz1] at hv;obtain ⟨X,hX⟩:=exq (W1.alloc (.cells #[.bool xu,.int .i64 xc,.int .i64 xa,.int .i64 xk,.int .i64 xt,.bool xo] 55));rw [hX] at hx2 hv
 obtain ⟨v0,v1,v2,v3,v4,v5⟩:=ce6 hv;have HX2:=qz hx2;have HLV:=qz (fun W (h:Bx14 w S A0 A1 A2 A3 A4 n0 n1 n2 n3 n4 c0 c1 c2 c3 c4 sq W) => rlives17 _ S xt W h.st hf);have HAM:=qz (fun (h1:xu = true) (h2:xo = true) (h3:xk = 2) W (h:Bx14 w S A0 A1 A2 A3 A4 n0 n1 n2 n3 n4 c0 c1 c2 c3 c4 sq W) => hA h1 h2 h3 W h.st);have HKL:=qz hk
 clear hs hx0 hxn hx2 hv hq hx hab hAd hA hf hT hk hl1;go_enter Tryz.func40,Tryz.ntmps40;go_upto_region 2 with (fail)
 clear t1 e0 e1 e2 e3 e4 e5 hX hW1
 cases xu with
 | false =>
  have HE:Hid (cntb17 S k = false):=qz (by
   rw [Bool.eq_false_iff,ne_eq,HCI.out];rintro ⟨_,h,_⟩
   cases h)
  go_wp2_with fail;go_ret
  exact ⟨by rw [HE.out]; rfl,HX2.out.b⟩
 | true =>
  cases xo with
  | false =>
   have HE:Hid (cntb17 S k = false):=qz (by
    rw [Bool.eq_false_iff,ne_eq,HCI.out];rintro ⟨_,_,h,_⟩
    cases h)
   go_wp2_with fail;go_ret
   exact ⟨by rw [HE.out]; rfl,HX2.out.b⟩
  | true =>
   obtain ⟨y0,y1,y2,y3,y4,y5⟩:=ce6 HX2.out.x;by_cases k1:xk = 1
   ·
    subst k1
    have HE:Hid (cntb17 S k = livb17 S xt):=qz (by
     rw [Bool.eq_iff_iff,HCI.out,livb17_yes];constructor
     ·
      rintro ⟨_,_,_,⟨_,h⟩ | ⟨h,_⟩⟩
      · exact h
      · omega
     · exact fun h => ⟨HKL.out,rfl,rfl,.inl ⟨rfl,h⟩⟩)
    clear HAM HCI HAL HKL;go_wp2_with fail;refine (HLV.out _ HX2.out).mono ?_;rintro e w4 ⟨rfl,hb4⟩;have HX4:=qz (HX2.out.step hb4);clear hb4 HLV HX2;go_wp2_with fail;go_ret;exact ⟨by rw [HE.out]; rfl,HX4.out.b⟩
   ·
    have k1b:(xk == 1) = false:=by simp [k1]
    by_cases k2:xk = 2
    ·
     subst k2
     have HE:Hid (cntb17 S k = decide (amt17 S xt S.T.length > 0)):=qz (by
      rw [Bool.eq_iff_iff,HCI.out,decide_eq_true_iff];constructor
      ·
       rintro ⟨_,_,_,⟨h,_⟩ | ⟨_,h⟩⟩
       · omega
       · exact HAL.out.2 h
      · exact fun h => ⟨HKL.out,rfl,rfl,.inr ⟨rfl,HAL.out.1 h⟩⟩)
     have HA2:=qz (HAM.out rfl rfl rfl X HX2.out);obtain ⟨am,ham⟩:=exq (amt17 S xt S.T.length);rw [ham] at HA2 HE;clear HAM HCI HAL HKL HLV ham k1;go_wp2_with fail;refine HA2.out.mono ?_;rintro e w4 ⟨rfl,hb4⟩;have HX4:=qz (HX2.out.step hb4);clear hb4 HA2 HX2;go_wp2_with fail;go_ret;exact ⟨by rw [HE.out]; first | rfl | simp,HX4.out.b⟩
    ·
     have k2b:(xk == 2) = false:=by simp [k2]
     have HE:Hid (cntb17 S k = false):=qz (by
      rw [Bool.eq_false_iff,ne_eq,HCI.out];rintro ⟨_,_,_,⟨h,_⟩ | ⟨h,_⟩⟩
      · exact k1 h
      · exact k2 h)
     have HB:=qz HX2.out.b;clear HAM HCI HAL HKL HLV k1 k2;go_wp2_with fail;go_ret;exact ⟨by rw [HE.out]; rfl,HB.out⟩
theorem ramount17_of (v:Value) (S:Sv14) (c:Int) (w:World) (h:St14 w v S) (hf:Fine14 S)
  (hC:∀ k:Nat,k < S.T.length->(gt14 S.T k).c = c->∀ W,St14 W v S->Calls Tryz.prog 40 #[v,.int .i64 (k:Int)] W fun e w' => e = .returned (.bool (cntb17 S k))/\Below W.heap.size W w') :
  Calls Tryz.prog 19 #[v,.int .i64 c] w fun e w' => e = .returned (.int .i64 (amt17 S c S.T.length))/\Below w.heap.size w w':=by
 obtain ⟨A0,A1,A2,A3,A4,n0,n1,n2,n3,n4,c0,c1,c2,c3,c4,sq,rfl,hs⟩:=h;have hx0:=Bx14.new hs;have hxn:=hx0.step (Below.refl _ _).drew;obtain ⟨W1,hW1⟩:=exq (w.alloc (.cells #[.slice A0 n0 c0,.slice A1 n1 c1,.slice A2 n2 c2,.slice A3 n3 c3,.slice A4 n4 c4,.int .i64 sq] 28));rw [hW1] at hx0 hxn;have HX0:=qz hx0;have t1:=hx0.x.cell 1;have HL1:=qz hs.l1
 have hm1:=hs.m1;have HBD:=qz (fun n => amt17_bound hf.2.2.2.2.1 c n);have HT:=qz hf.2.2.2.2.1;have HC:=qz (fun (k:Nat) hk he W (h:Bx14 w S A0 A1 A2 A3 A4 n0 n1 n2 n3 n4 c0 c1 c2 c3 c4 sq W) => hC k hk he W h.st);clear hs hx0 hxn hC hf;go_enter Tryz.func19,Tryz.ntmps19;go_wp2_with fail;clear t1
 go_loopw [5,6] (fun n i wr => ∃ (k:Nat) (z:Int),n = .int .i64 z/\i = .int .i64 (k:Int)/\k<=n1/\Hid (amt17 S c k = z)/\Hid (Bx14 w S A0 A1 A2 A3 A4 n0 n1 n2 n3 n4 c0 c1 c2 c3 c4 sq wr)) (fun _ i _ => n1 - (intOf i).toNat)
 case atStart => exact ⟨0,0,rfl,rfl,by omega,qz rfl,HX0⟩
 case round =>
  clear HX0;obtain ⟨k,z,rfl,rfl,hk,HZ,HW⟩:=hrel;by_cases hkn:k < n1
  ·
   have hkl:k < S.T.length:=by have:=HL1.out; omega
   obtain ⟨a,of,hA,hab,hq⟩:=Lq.at_ len14T (by omega) HW.out.s.r1 hkl;subst hA;have t1:=HW.out.x.cell 1;have HTK:=qz (fun hu => (HT.out k hkl hu));have HCK:=qz (fun h => HC.out k hkl h);have HN:Hid (amt17 S c (k + 1) = z + if (gt14 S.T k).c = c/\cntb17 S k = true then (gt14 S.T k).a else 0):=qz (by rw [amt17,HZ.out])
   have HCU:Hid (cntb17 S k = true->(gt14 S.T k).u = true):=qz (fun h => (cntb17_yes.1 h).lt.2);obtain ⟨x,hx⟩:=exq (gt14 S.T k);rw [hx] at hq HTK HCK HN HCU;obtain ⟨xu,xc,xa,xk,xt,xo⟩:=x;dsimp only at HTK HCK HN HCU;have e1:wr.cell? ⟨a,of + k * 6 + 1,none⟩ = some (.int .i64 xc):=hq 1 _ rfl
   have HE2:Hid (wr.cell? ⟨a,of + k * 6 + 2,none⟩ = some (.int .i64 xa)):=qz (hq 2 _ rfl);have i0:(0:Int)<=(k:Int):=by omega
   have i1:(k:Int) < (n1:Int):=by omega
   clear hx hq hab;by_cases hc:xc = c
   ·
    have hcb:(xc == c) = true:=by simp [hc]
    have HCW:=qz (HCK.out hc wr HW.out);obtain ⟨b,hb⟩:=exq (cntb17 S k);rw [hb] at HCW HN HCU;obtain ⟨y0,y1,y2,y3,y4,y5⟩:=ce6 HW.out.x;clear hb HCK y1
    cases b with
    | false =>
     have HN2:Hid (amt17 S c (k + 1) = z):=qz (by rw [HN.out,if_neg (by rintro ⟨_,h⟩; cases h)]; omega);clear HN HTK HCU hc;go_wp2_with fail;refine HCW.out.mono ?_;rintro e w4 ⟨rfl,hb4⟩;have HX4:=qz (HW.out.step hb4);clear hb4 HCW;go_wp2_with fail;go_roundw
     case rel => exact ⟨k + 1,z,rfl,by go_num,by omega,HN2,HX4⟩
     case measure => simp [intOf]; omega
    | true =>
     have HN2:Hid (amt17 S c (k + 1) = z + xa):=qz (by rw [HN.out,if_pos ⟨hc,rfl⟩]);have hbd:=HBD.out (k + 1);rw [HN2.out] at hbd;have hwr:IntKind.i64.wrap (z + xa) = z + xa:=by rw [IntKind.wrap_i64]; omega
     clear HN HTK HCU hc hbd;go_wp2_with fail;refine HCW.out.mono ?_;rintro e w4 ⟨rfl,hb4⟩;have HX4:=qz (HW.out.step hb4);have f2:=(hb4.cell (World.block_lt_of_cell? _ _ HE2.out)).trans HE2.out;have t14:=HX4.out.x.cell 1;clear hb4 HCW;go_wp2_with fail;go_roundw
     case rel => exact ⟨k + 1,z + xa,by first | rfl | rw [hwr],by go_num,by omega,HN2,HX4⟩
     case measure => simp [intOf]; omega
   ·
    have hcb:(xc == c) = false:=by simp [hc]
    have HN2:Hid (amt17 S c (k + 1) = z):=qz (by rw [HN.out,if_neg (fun h => hc h.1)]; omega);clear HN HTK HCU HCK hc;go_wp2_with fail;go_roundw
    case rel => exact ⟨k + 1,z,rfl,by go_num,by omega,HN2,HW⟩
    case measure => simp [intOf]; omega
  ·
   obtain rfl:k = n1:=by omega
   have t1:=HW.out.x.cell 1;have h1:¬ (k:Int) < (k:Int):=by omega
   have HE:Hid (amt17 S c S.T.length = z):=qz (by rw [HL1.out]; exact HZ.out);go_wp2_with fail;go_ret;exact ⟨by rw [HE.out]; rfl,HW.out.b⟩
theorem ramount17 (v:Value) (S:Sv14) (hf:Fine14 S) (c:Int) (w:World) (h:St14 w v S) :
  Calls Tryz.prog 19 #[v,.int .i64 c] w fun e w' => e = .returned (.int .i64 (amt17 S c S.T.length))/\Below w.heap.size w w':=by
 have hT:=hf.2.2.2.2.1;obtain ⟨os,hd⟩:=done13_ex (Ca15 S) S.C.length;have hl:os.length = S.C.length:=Done13.full (in13_cut _ _) hd (free15_ring.1 hf.2.2.2.2.2.2.2.2.1)
 have key:∀ (n d:Nat),d < (ord15 S os).length->(ord15 S os).length - d<=n->∀ w,St14 w v S->Calls Tryz.prog 19 #[v,.int .i64 ((nth (ord15 S os) d:Nat):Int)] w fun e w' => e = .returned (.int .i64 (amt17 S ((nth (ord15 S os) d:Nat):Int) S.T.length))/\Below w.heap.size w w':=by
  intro n
  induction n with
  | zero => intro d h1 h2; omega
  | succ n ih =>
   intro d h1 h2 w h;refine ramount17_of v S _ w h hf (fun k hk hc W hW => rcounts17_of v S k W hW hf hk (fun hu _ hk2 W2 hW2 => ?_));have hb:=ord17_behind hT hd.1 hl h1 hk hu hk2 hc;obtain ⟨q,hq,hqe⟩:=List.mem_iff_getElem.1 hb;rw [List.length_drop] at hq;rw [List.getElem_drop,<- nth_in] at hqe
   have huc:us14 usC S.C (gt14 S.T k).t = true:=by
    rcases (hT k hk hu).2.2.2 with h | h | h
    · omega
    · omega
    · exact h.2.2
   have hin:=us15_lt huc;have h3:=ih (d + 1 + q) (by omega) (by omega) W2 hW2;rw [hqe,show (((gt14 S.T k).t.toNat:Nat):Int) = (gt14 S.T k).t by omega] at h3;exact h3
 cases hu:us14 usC S.C c with
 | true =>
  have hin:=us15_lt hu;have hci:((c.toNat:Nat):Int) = c:=by omega
  have hm:c.toNat∈ord15 S os:=(ord17_in hd.1 hl).2 (by rw [hci]; exact hu);obtain ⟨q,hq,hqe⟩:=List.mem_iff_getElem.1 hm;rw [<- nth_in hq] at hqe;have h3:=key _ q hq (Nat.le_refl _) w h;rw [hqe,hci] at h3
  exact h3
 | false =>
  refine ramount17_of v S c w h hf (fun k hk hc W hW => rcounts17_of v S k W hW hf hk (fun hu2 _ _ => ?_));have h4:=(hT k hk hu2).1;rw [hc,hu] at h4;cases h4
theorem rcounts17 (v:Value) (S:Sv14) (hf:Fine14 S) (k:Nat) (hk:k < S.T.length) (w:World) (h:St14 w v S) :
  Calls Tryz.prog 40 #[v,.int .i64 (k:Int)] w fun e w' => e = .returned (.bool (cntb17 S k))/\Below w.heap.size w w' :=
 rcounts17_of v S k w h hf hk (fun _ _ _ W hW => ramount17 v S hf _ W hW)
def RTickets14 (S:Sv14):Prop:=Tidy14 usT S.T 96/\Tickets14 S
theorem rtickets14 (
          v:Value) (S:Sv14) (b:Bool) (w:World) (h:St14 w v S) (hbt:b = true↔RTickets14 S) :
  Calls Tryz.prog 22 #[v] w fun e w' => e = .returned (.bool b)/\Below w.heap.size w w':=by
 obtain ⟨A0,A1,A2,A3,A4,n0,n1,n2,n3,n4,c0,c1,c2,c3,c4,sq,rfl,hs⟩:=h;have HX0:=qz (Bx14.new hs);have HBT:=qz hbt;have hnT:=hs.m1;have hnH:=hs.m2;have hnL:=hs.m3;have HLT:=qz hs.l1;have HLH:=qz hs.l2;have HLL:=qz hs.l3;have t1:=HX0.out.x.cell 1;clear hs hbt;go_enter Tryz.func22,Tryz.ntmps22;go_wp2_with fail;clear t1
 go_loopw [3] (fun i wr => ∃ k:Nat,i = .int .i64 (k:Int)/\k<=n1/\Hid (∀ j,j < k->(usT (gt14 S.T j) = true->Ticket14 S (gt14 S.T j))/\(usT (gt14 S.T j) = false->gt14 S.T j = default))/\Hid (Bx14 w S A0 A1 A2 A3 A4 n0 n1 n2 n3 n4 c0 c1 c2 c3 c4 sq wr)) (fun i _ => n1 - (intOf i).toNat)
 case atStart => exact ⟨0,rfl,by omega,qz (fun j h => by omega),HX0⟩
 case round =>
  obtain ⟨k,rfl,hk,HN,HW⟩:=hrel;have t0_:=HW.out.x.cell 1;by_cases hkn:k < n1
  ·
   skip;obtain ⟨a,of,hA,hab,hq⟩:=Lq.at_ len14T (by omega) HW.out.s.r1 (show k < S.T.length by rw [HW.out.s.l1]; omega);have HAE:=qz hA;obtain ⟨x,hx⟩:=exq (gt14 S.T k);rw [hx] at hq;obtain ⟨xu,xc,xa,xk,xt,xo⟩:=x;have e0:wr.cell? ⟨a,of + k * 6,none⟩ = some (.bool xu):=hq 0 _ rfl;have e1:wr.cell? ⟨a,of + k * 6 + 1,none⟩ = some (.int .i64 xc):=hq 1 _ rfl
   have e2:wr.cell? ⟨a,of + k * 6 + 2,none⟩ = some (.int .i64 xa):=hq 2 _ rfl;have e3:wr.cell? ⟨a,of + k * 6 + 3,none⟩ = some (.int .i64 xk):=hq 3 _ rfl;have e4:wr.cell? ⟨a,of + k * 6 + 4,none⟩ = some (.int .i64 xt):=hq 4 _ rfl;have e5:wr.cell? ⟨a,of + k * 6 + 5,none⟩ = some (.bool xo):=hq 5 _ rfl;have i0:(0:Int)<=(k:Int):=by omega
   have i1:(k:Int) < (n1:Int):=by omega
   have HV:=qz (Bx14.step HW.out (b1' wr (.cells #[.bool xu,.int .i64 xc,.int .i64 xa,.int .i64 xk,.int .i64 xt,.bool xo] 55)));have hv:=Blk.new wr 55 #[.bool xu,.int .i64 xc,.int .i64 xa,.int .i64 xk,.int .i64 xt,.bool xo];obtain ⟨v0,v1,v2,v3,v4,v5⟩:=ce6 hv;have HVB:=qz hv;have HXE:=qz hx;obtain ⟨p0,p1,p2,p3,p4,p5⟩:=ce6 HV.out.x
   obtain ⟨X,hX⟩:=exq (wr.alloc (.cells #[.bool xu,.int .i64 xc,.int .i64 xa,.int .i64 xk,.int .i64 xt,.bool xo] 55));rw [hX] at HV HVB v0 v1 v2 v3 v4 v5 p0 p1 p2 p3 p4 p5;clear hv hq hx hab;subst hA
   have HN3:=qz (fun h:(usT ⟨xu,xc,xa,xk,xt,xo⟩ = true->Ticket14 S ⟨xu,xc,xa,xk,xt,xo⟩)/\(usT ⟨xu,xc,xa,xk,xt,xo⟩ = false->(⟨xu,xc,xa,xk,xt,xo⟩:Tk14) = default) => (show Hid (∀ j,j < k + 1->(usT (gt14 S.T j) = true->Ticket14 S (gt14 S.T j))/\(usT (gt14 S.T j) = false->gt14 S.T j = default)) from qz (fun j hj => by
    rcases (show j < k\/j = k by omega) with h5 | h5
    · exact HN.out j h5
    · rw [h5,HXE.out]; exact h)))
   have HFF2:=qz (fun h2:¬ ((usT ⟨xu,xc,xa,xk,xt,xo⟩ = true->Ticket14 S ⟨xu,xc,xa,xk,xt,xo⟩)/\(usT ⟨xu,xc,xa,xk,xt,xo⟩ = false->(⟨xu,xc,xa,xk,xt,xo⟩:Tk14) = default)) => (show Hid (b = false) from qz (bool14_of HBT.out (fun h => h2 (by
    have h3:=h.2 k (by rw [HLT.out]; exact hkn);have h4:=h.1.2.2 k (by rw [HLT.out]; exact hkn);rw [HXE.out] at h3 h4
    exact ⟨h3,h4⟩)))))
   cases xu with
   | false =>
    obtain ⟨bz,hbz⟩:=exq (decide ((⟨false,xc,xa,xk,xt,xo⟩:Tk14) = ⟨false,0,0,0,0,false⟩));have hneq:=neq14T false xc xa xk xt xo false 0 0 0 0 false;simp only [hbz] at hneq
    cases bz with
    | true =>
     have hdef:=of_decide_eq_true hbz;have HN2:=HN3.out ⟨fun h => (by cases h),fun _ => hdef⟩;clear hbz hdef;go_wp2_with fail;go_roundw
     case rel => exact ⟨k + 1,by go_num,by omega,HN2,HV⟩
     case measure => simp [intOf]; omega
    | false =>
     have hdef:=of_decide_eq_false hbz;have HF:=HFF2.out (fun h => hdef (h.2 rfl));clear hbz hdef;go_wp2_with fail;go_ret
     exact ⟨by rw [HF.out]; rfl,HV.out.b⟩
   | true =>
    obtain ⟨bt,hbt2⟩:=ex_bool14 (Target14 S ⟨true,xc,xa,xk,xt,xo⟩);obtain ⟨bc,hbc⟩:=exq (us14 usC S.C xc);have HBT2:=qz hbt2;have HBC:=qz hbc;have HCC:=qz (fun W (h:Below X.heap.size X W) => rCoin14 _ S xc bc W (HV.out.step h).st hbc);clear hbt2 hbc;go_upto_region 8 with (fail)
    go_cut [5] (fun y wx => y = .bool bt/\Hid (Below X.heap.size X wx))
    case first =>
     clear HCC HN3 HFF2 HBC HN;by_cases k0:xk = 0
     ·
      subst k0;by_cases t0:xt = 0
      ·
       subst t0;obtain rfl:bt = true:=HBT2.out.2 (.inl ⟨rfl,rfl⟩);go_wp2_with fail;go_meet;exact ⟨rfl,qz (Below.refl _ _)⟩
      ·
       have hf:(xt == 0) = false:=by simpa using t0
       obtain rfl:bt = false:=bool14_of HBT2.out (fun h => by
        rcases h with h | h | h
        · exact t0 h.2
        · exact absurd h.1 (by show ¬ (0:Int) = 1; decide)
        · exact absurd h.1 (by show ¬ (0:Int) = 2; decide))
       go_wp2_with fail;go_meet;exact ⟨rfl,qz (Below.refl _ _)⟩
     ·
      by_cases k1:xk = 1
      ·
       subst k1;obtain ⟨bh,hbh⟩:=exq (us14 usH S.H xt);have HE:Hid (bt = bh):=qz (by rw [Bool.eq_iff_iff,HBT2.out,<- hbh]; simp [Target14]);have HC:=qz (rThread14 _ S xt bh _ HV.out.st hbh);clear hbh;go_wp2_with fail;refine HC.out.mono ?_;rintro e u ⟨rfl,hb1⟩;have HU:=qz (HV.out.step hb1);have HY:=qz (HVB.out.below hb1 HVB.out.lt)
       have y3:=HY.out.cell 3;have y4:=HY.out.cell 4;have HBX:=qz hb1;clear hb1 HC
       cases bh with
       | true =>
        go_wp2_with fail;go_meet
        exact ⟨by first | rfl | (rw [HE.out]; done) | (rw [HE.out]; rfl) | (rw [HE.out]; simp [t0]),HBX⟩
       | false =>
        go_wp2_with fail;go_meet;exact ⟨by first | rfl | (rw [HE.out]; done) | (rw [HE.out]; rfl) | (rw [HE.out]; simp [t0]),HBX⟩
      ·
       by_cases k2:xk = 2
       ·
        subst k2;by_cases t0:xt = 0
        ·
         subst t0
         obtain rfl:bt = false:=bool14_of HBT2.out (fun h => by
          rcases h with h | h | h
          · exact absurd h.1 (by show ¬ (2:Int) = 0; decide)
          · exact absurd h.1 (by show ¬ (2:Int) = 1; decide)
          · exact h.2.1 rfl)
         go_wp2_with fail;go_meet;exact ⟨rfl,qz (Below.refl _ _)⟩
        ·
         obtain ⟨bh,hbh⟩:=exq (us14 usC S.C xt);have HE:Hid (bt = bh):=qz (by rw [Bool.eq_iff_iff,HBT2.out,<- hbh]; simp [Target14,t0]);have HC:=qz (rCoin14 _ S xt bh _ HV.out.st hbh);clear hbh;go_wp2_with fail;refine HC.out.mono ?_;rintro e u ⟨rfl,hb1⟩;have HU:=qz (HV.out.step hb1);have HY:=qz (HVB.out.below hb1 HVB.out.lt);have HBX:=qz hb1
         clear hb1 HC;go_wp2_with fail;go_meet;exact ⟨by first | rfl | (rw [HE.out]; done) | (rw [HE.out]; rfl) | (rw [HE.out]; simp [t0]),HBX⟩
       ·
        obtain rfl:bt = false:=bool14_of HBT2.out (fun h => by
         rcases h with h | h | h
         · exact k0 h.1
         · exact k1 h.1
         · exact k2 h.1)
        go_wp2_with fail;go_meet;exact ⟨rfl,qz (Below.refl _ _)⟩
    case rest =>
     obtain ⟨rfl,HBX⟩:=hcut;have HU:=qz (HV.out.step HBX.out);have HY:=qz (HVB.out.below HBX.out HVB.out.lt);obtain ⟨y0,y1,y2,y3,y4,y5⟩:=ce6 HY.out;obtain ⟨z0,z1,z2,z3,z4,z5⟩:=ce6 HU.out.x;go_wp2_with fail;refine (HCC.out _ HBX.out).mono ?_;rintro e u ⟨rfl,hb1⟩;have HU2:=qz (HU.out.step hb1);have HY2:=qz (HY.out.below hb1 HY.out.lt)
     have x2:=HY2.out.cell 2;clear HCC hb1
     cases bc with
     | false =>
      have HF:=HFF2.out (fun h => by have h1:=(h.1 rfl).1; rw [HBC.out] at h1; cases h1);go_wp2_with fail;go_ret
      exact ⟨by rw [HF.out]; rfl,HU2.out.b⟩
     | true =>
      by_cases a1:xa < 1
      ·
       have HF:=HFF2.out (fun h => by have h1:1<=xa:=(h.1 rfl).2.1; omega);go_wp2_with fail;go_ret;exact ⟨by rw [HF.out]; rfl,HU2.out.b⟩
      ·
       by_cases a2:xa > 1048576
       ·
        have HF:=HFF2.out (fun h => by have h1:xa<=1048576:=(h.1 rfl).2.2.1; omega);go_wp2_with fail;go_ret;exact ⟨by rw [HF.out]; rfl,HU2.out.b⟩
       ·
        cases bt with
        | false =>
         have HF:=HFF2.out (fun h => by have h1:=HBT2.out.2 (h.1 rfl).2.2.2; cases h1);go_wp2_with fail;go_ret
         exact ⟨by rw [HF.out]; rfl,HU2.out.b⟩
        | true =>
         have HN2:=HN3.out ⟨fun _ => ⟨HBC.out,by show 1<=xa; omega,by show xa<=1048576; omega,HBT2.out.1 rfl⟩,fun h => (by cases h)⟩;go_wp2_with fail;go_roundw
         case rel => exact ⟨k + 1,by go_num,by omega,HN2,HU2⟩
         case measure => simp [intOf]; omega
  ·
   obtain rfl:k = n1:=by omega
   have HE:Hid (b = true↔k<=96/\(k = 0\/usT (gt14 S.T (k - 1)) = true)):=qz (by
    rw [HBT.out];constructor
    ·
     intro h;have h1:=h.1.1;have h2:=h.1.2.1;rw [HLT.out] at h1 h2;exact ⟨h1,en14_full.1 h2⟩
    ·
     rintro ⟨h1,h2⟩
     exact ⟨⟨by rw [HLT.out]; exact h1,by rw [HLT.out]; exact en14_full.2 h2,fun j hj => (HN.out j (by rw [HLT.out] at hj; exact hj)).2⟩,fun j hj => (HN.out j (by rw [HLT.out] at hj; exact hj)).1⟩)
   have h1:¬ (k:Int) < (k:Int):=by omega
   by_cases hm:k<=96
   ·
    by_cases hz:k = 0
    ·
     subst hz;have HF:Hid (b = true):=qz (HE.out.2 ⟨by omega,.inl rfl⟩);go_wp2_with fail;go_ret;exact ⟨by rw [HF.out]; rfl,HW.out.b⟩
    ·
     obtain ⟨q,hqk⟩:∃ q,k = q + 1:=⟨k - 1,by omega⟩
     have HQK:=qz hqk;have hqn:q < k:=by omega
     obtain ⟨a,of,hA,hab,hq⟩:=Lq.at_ len14T (by omega) HW.out.s.r1 (show q < S.T.length by rw [HW.out.s.l1]; omega);subst hA;obtain ⟨x,hx⟩:=exq (gt14 S.T q);have HF:Hid (b = usT x):=qz (by rw [Bool.eq_iff_iff,HE.out,<- hx,HQK.out,Nat.add_sub_cancel]; simp; omega);rw [hx] at hq;obtain ⟨xu,xc,xa,xk,xt,xo⟩:=x
     have e0:wr.cell? ⟨a,of + q * 6,none⟩ = some (.bool xu):=hq 0 _ rfl;have hw:IntKind.i64.wrap ((k:Int) - 1) = (q:Int):=by rw [IntKind.wrap_i64]; omega
     have i0:(0:Int)<=(q:Int):=by omega
     have i1:(q:Int) < (k:Int):=by omega
     have d1:(k:Int)<=96:=by omega
     have d2:((k:Int) == 0) = false:=by simp; omega
     clear hq hx hab hz hm HE hqk hqn
     cases xu with
     | true =>
      go_wp2_with fail;go_ret
      exact ⟨by rw [HF.out]; rfl,HW.out.b⟩
     | false =>
      go_wp2_with fail;go_ret;exact ⟨by rw [HF.out]; rfl,HW.out.b⟩
   ·
    have HF:Hid (b = false):=qz (bool14_of HE.out (fun h => hm h.1));have c1:decide ((k:Int)<=96) = false:=by simp; omega
    have c3:¬ (k:Int)<=96:=by omega
    clear hm HE;go_wp2_with fail;go_ret;exact ⟨by rw [HF.out]; rfl,HW.out.b⟩
def RThreads14 (S:Sv14):Prop:=Tidy14 usH S.H 32/\Threads14 S
theorem at14_out {α:Type} [Inhabited α] {us:α->Bool} {xs:List α} {i:Int} (h:us14 us xs i = false):at14 us xs i = default:=by
 unfold at14;rw [h];rfl
theorem rthreads14 (
          v:Value) (S:Sv14) (b:Bool) (w:World) (h:St14 w v S) (hbt:b = true↔RThreads14 S) :
  Calls Tryz.prog 23 #[v] w fun e w' => e = .returned (.bool b)/\Below w.heap.size w w':=by
 obtain ⟨A0,A1,A2,A3,A4,n0,n1,n2,n3,n4,c0,c1,c2,c3,c4,sq,rfl,hs⟩:=h;have HX0:=qz (Bx14.new hs);have HBT:=qz hbt;have hnT:=hs.m1;have hnH:=hs.m2;have hnL:=hs.m3;have HLT:=qz hs.l1;have HLH:=qz hs.l2;have HLL:=qz hs.l3;have t1:=HX0.out.x.cell 2;have HSQ:=qz hs.e;clear hs hbt;go_enter Tryz.func23,Tryz.ntmps23;go_wp2_with fail;clear t1
 go_loopw [3,4] (fun r i wr => ∃ k:Nat,r = .int .i64 ((runs14 S.H k:Nat):Int)/\i = .int .i64 (k:Int)/\k<=n2/\Hid (∀ j,j < k->(usH (gt14 S.H j) = true->Thrd14 S j (gt14 S.H j))/\(usH (gt14 S.H j) = false->gt14 S.H j = default))/\Hid (Bx14 w S A0 A1 A2 A3 A4 n0 n1 n2 n3 n4 c0 c1 c2 c3 c4 sq wr)) (fun _ i _ => n2 - (intOf i).toNat)
 case atStart => exact ⟨0,rfl,rfl,by omega,qz (fun j h => by omega),HX0⟩
 case round =>
  obtain ⟨k,rfl,rfl,hk,HN,HW⟩:=hrel;have t0_:=HW.out.x.cell 2;obtain ⟨rn,hrn⟩:=exq (runs14 S.H k);have hrk:rn<=k:=by rw [<- hrn]; exact runs14_le _ _
  have HRN:=qz hrn;rw [hrn];clear hrn;by_cases hkn:k < n2
  ·
   skip;obtain ⟨a,of,hA,hab,hq⟩:=Lq.at_ len14H (by omega) HW.out.s.r2 (show k < S.H.length by rw [HW.out.s.l2]; omega);have HAE:=qz hA;obtain ⟨x,hx⟩:=exq (gt14 S.H k);rw [hx] at hq;obtain ⟨xz,xf,xc,xq,xu⟩:=x;have e0:wr.cell? ⟨a,of + k * 5,none⟩ = some (.int .i64 xz):=hq 0 _ rfl;have e1:wr.cell? ⟨a,of + k * 5 + 1,none⟩ = some (.int .i64 xf):=hq 1 _ rfl
   have e2:wr.cell? ⟨a,of + k * 5 + 2,none⟩ = some (.int .i64 xc):=hq 2 _ rfl;have e3:wr.cell? ⟨a,of + k * 5 + 3,none⟩ = some (.int .i64 xq):=hq 3 _ rfl;have e4:wr.cell? ⟨a,of + k * 5 + 4,none⟩ = some (.int .i64 xu):=hq 4 _ rfl;have i0:(0:Int)<=(k:Int):=by omega
   have i1:(k:Int) < (n2:Int):=by omega
   have HV:=qz (Bx14.step HW.out (b1' wr (.cells #[.int .i64 xz,.int .i64 xf,.int .i64 xc,.int .i64 xq,.int .i64 xu] 60)));have hv:=Blk.new wr 60 #[.int .i64 xz,.int .i64 xf,.int .i64 xc,.int .i64 xq,.int .i64 xu];obtain ⟨v0,v1,v2,v3,v4⟩:=ce5 hv;have HVB:=qz hv;have HXE:=qz hx;obtain ⟨p0,p1,p2,p3,p4,p5⟩:=ce6 HV.out.x
   obtain ⟨X,hX⟩:=exq (wr.alloc (.cells #[.int .i64 xz,.int .i64 xf,.int .i64 xc,.int .i64 xq,.int .i64 xu] 60));rw [hX] at HV HVB v0 v1 v2 v3 v4 p0 p1 p2 p3 p4 p5;clear hv hq hx hab;subst hA;have hw1:IntKind.i64.wrap ((rn:Int) + 1) = ((rn + 1:Nat):Int):=by rw [IntKind.wrap_i64]; omega
   have HN3:=qz (fun h:(usH (⟨xz,xf,xc,xq,xu⟩:Th14) = true->Thrd14 S k (⟨xz,xf,xc,xq,xu⟩:Th14))/\(usH (⟨xz,xf,xc,xq,xu⟩:Th14) = false->(⟨xz,xf,xc,xq,xu⟩:Th14) = default) => (show Hid (∀ j,j < k + 1->(usH (gt14 S.H j) = true->Thrd14 S j (gt14 S.H j))/\(usH (gt14 S.H j) = false->gt14 S.H j = default)) from qz (fun j hj => by
    rcases (show j < k\/j = k by omega) with h5 | h5
    · exact HN.out j h5
    · rw [h5,HXE.out]; exact h)))
   have HFF2:=qz (fun h2:¬ ((usH (⟨xz,xf,xc,xq,xu⟩:Th14) = true->Thrd14 S k (⟨xz,xf,xc,xq,xu⟩:Th14))/\(usH (⟨xz,xf,xc,xq,xu⟩:Th14) = false->(⟨xz,xf,xc,xq,xu⟩:Th14) = default)) => (show Hid (b = false) from qz (bool14_of HBT.out (fun h => h2 (by
    have h3:=h.2.1 k (by rw [HLH.out]; exact hkn);have h4:=h.1.2.2 k (by rw [HLH.out]; exact hkn);rw [HXE.out] at h3 h4
    exact ⟨h3,h4⟩)))))
   have HRS:Hid (runs14 S.H (k + 1) = rn + if xz = 3 then 1 else 0):=qz (by rw [runs14,HRN.out,HXE.out]);by_cases z0:xz = 0
   ·
    subst z0;obtain ⟨bz,hbz⟩:=exq (decide ((⟨0,xf,xc,xq,xu⟩:Th14) = ⟨0,0,0,0,0⟩));have hneq:=neq14H 0 xf xc xq xu 0 0 0 0 0;simp only [hbz] at hneq;have HR3:Hid (runs14 S.H (k + 1) = rn):=qz (by rw [HRS.out]; rfl)
    cases bz with
    | true =>
     have hdef:=of_decide_eq_true hbz;have HN2:=HN3.out ⟨fun h => by simp [usH] at h,fun _ => hdef⟩;clear hbz hdef;go_wp2_with fail;go_roundw
     case rel => exact ⟨k + 1,by rw [HR3.out],by go_num,by omega,HN2,HV⟩
     case measure => simp [intOf]; omega
    | false =>
     have hdef:=of_decide_eq_false hbz;have HF:=HFF2.out (fun h => hdef (h.2 (by simp [usH])));clear hbz hdef;go_wp2_with fail;go_ret;exact ⟨by rw [HF.out]; rfl,HV.out.b⟩
   ·
    have hz0:(
          xz == 0) = false:=by simpa using z0
    obtain ⟨rn1,hrn1⟩:=exq (runs14 S.H (k + 1));have HRS2:Hid (rn1 = rn + if xz = 3 then 1 else 0):=qz (by rw [<- hrn1]; exact HRS.out);have HR3:=qz hrn1;have HUS:Hid (usH (⟨xz,xf,xc,xq,xu⟩:Th14) = true):=qz (by simp [usH,z0]);obtain ⟨bf,hbf⟩:=ex_bool14 (For14 S k (⟨xz,xf,xc,xq,xu⟩:Th14));obtain ⟨bc,hbc⟩:=ex_bool14 (Client14 S k (⟨xz,xf,xc,xq,xu⟩:Th14))
    have HBF:=qz hbf;have HBC:=qz hbc;clear hbf hbc hrn1
    go_upto_if 30 with (fail)
    go_cut [3] (fun y wx => y = .int .i64 ((rn1:Nat):Int)/\Hid (X = wx))
    case first =>
     clear HN3 HFF2 HN HBF HBC HR3;by_cases z3:xz = 3
     ·
      subst z3;have HE:Hid (rn1 = rn + 1):=qz (by rw [HRS2.out,if_pos rfl]);go_wp2_with fail;go_meet;exact ⟨by first | (rw [HE.out]; done) | (rw [HE.out]; rfl) | (rw [HE.out]; simp),qz rfl⟩
     ·
      have HE:Hid (rn1 = rn):=qz (by rw [HRS2.out,if_neg z3]; rfl);go_wp2_with fail;go_meet;exact ⟨by rw [HE.out],qz rfl⟩
    case rest =>
     obtain ⟨rfl,HXW⟩:=hcut;obtain rfl:=HXW.out;clear HXW;go_upto_region 11 with (fail)
     go_cut [6] (fun y wx => y = .bool bf/\Hid (Below X.heap.size X wx))
     case first =>
      clear HN3 HFF2 HN HBC HR3 HRS HRS2;by_cases p0:0 < xz
      ·
       by_cases p6:xz < 6
       ·
        by_cases p4:xz = 4
        ·
         subst p4;by_cases pk:xf = (k:Int)
         ·
          subst pk
          obtain rfl:bf = false:=bool14_of HBF.out (fun h => by
           rcases h with h | h | h
           · exact h.2.2 rfl
           · exact absurd h.1 (by show ¬ (4:Int) = 6; decide)
           · exact absurd h.1 (by show ¬ ((4:Int) = 1\/(4:Int) = 2\/(4:Int) = 3\/(4:Int) = 5); decide))
          have HE:Hid (true = true):=qz rfl;go_wp2_with fail;go_meet;exact ⟨by first | rfl | (rw [HE.out]; done) | (rw [HE.out]; rfl),qz (Below.refl _ _)⟩
         ·
          have hpk:(xf == (k:Int)) = false:=by simpa using pk
          obtain ⟨bh,hbh⟩:=exq (us14 usH S.H xf);have HE:Hid (bf = bh):=qz (by rw [Bool.eq_iff_iff,HBF.out,<- hbh]; simp [For14,pk]);have HC:=qz (rThread14 _ S xf bh _ HV.out.st hbh);clear hbh;go_wp2_with fail;refine (HC.out).mono ?_;rintro e u ⟨rfl,hb1⟩;have HB1:=qz (hb1);have HY1:=qz (HVB.out.below HB1.out HVB.out.lt)
          have HU1:=qz (HV.out.step HB1.out);have b0_:=HY1.out.cell 0;clear hb1;clear HC
          cases bh with
          | true =>
           go_wp2_with fail;go_meet
           exact ⟨by first | rfl | (rw [HE.out]; done) | (rw [HE.out]; rfl),HB1⟩
          | false =>
           go_wp2_with fail;go_meet;exact ⟨by first | rfl | (rw [HE.out]; done) | (rw [HE.out]; rfl),HB1⟩
        ·
         have hp4:(xz == 4) = false:=by simpa using p4
         have hp6:(xz == 6) = false:=by simp; omega
         by_cases pm:xf = -1
         ·
          subst pm;obtain rfl:bf = true:=HBF.out.2 (.inr (.inr ⟨by show xz = 1\/xz = 2\/xz = 3\/xz = 5; omega,rfl⟩));have HE:Hid (true = true):=qz rfl;go_wp2_with fail;go_meet;exact ⟨by first | rfl | (rw [HE.out]; done) | (rw [HE.out]; rfl),qz (Below.refl _ _)⟩
         ·
          have hpm:(xf == -1) = false:=by simpa using pm
          obtain rfl:bf = false:=bool14_of HBF.out (fun h => by
           rcases h with h | h | h
           · exact p4 h.1
           · exact absurd h.1 (by show ¬ xz = 6; omega)
           · exact pm h.2)
          have HE:Hid (true = true):=qz rfl;go_wp2_with fail;go_meet;exact ⟨by first | rfl | (rw [HE.out]; done) | (rw [HE.out]; rfl),qz (Below.refl _ _)⟩
       ·
        by_cases p66:xz = 6
        ·
         subst p66;obtain ⟨bh,hbh⟩:=exq (us14 usL S.L xf);have HE:Hid (bf = bh):=qz (by rw [Bool.eq_iff_iff,HBF.out,<- hbh]; simp [For14]);have HC:=qz (rLock14 _ S xf bh _ HV.out.st hbh);clear hbh;go_wp2_with fail;refine (HC.out).mono ?_;rintro e u ⟨rfl,hb1⟩;have HB1:=qz (hb1);have HY1:=qz (HVB.out.below HB1.out HVB.out.lt)
         have HU1:=qz (HV.out.step HB1.out);have b0_:=HY1.out.cell 0;clear hb1;clear HC;go_wp2_with fail;go_meet;exact ⟨by first | rfl | (rw [HE.out]; done) | (rw [HE.out]; rfl),HB1⟩
        ·
         have hp6:(xz == 6) = false:=by simpa using p66
         have hp4:(xz == 4) = false:=by simp; omega
         obtain rfl:bf = false:=bool14_of HBF.out (fun h => by
          rcases h with h | h | h
          · exact absurd h.1 (by show ¬ xz = 4; omega)
          · exact p66 h.1
          · exact absurd h.1 (by show ¬ (xz = 1\/xz = 2\/xz = 3\/xz = 5); omega))
         have HE:Hid (true = true):=qz rfl;go_wp2_with fail;go_meet;exact ⟨by first | rfl | (rw [HE.out]; done) | (rw [HE.out]; rfl),qz (Below.refl _ _)⟩
      ·
       have hp6:(xz == 6) = false:=by simp; omega
       have hp4:(xz == 4) = false:=by simp; omega
       obtain rfl:bf = false:=bool14_of HBF.out (fun h => by
        rcases h with h | h | h
        · exact absurd h.1 (by show ¬ xz = 4; omega)
        · exact absurd h.1 (by show ¬ xz = 6; omega)
        · exact absurd h.1 (by show ¬ (xz = 1\/xz = 2\/xz = 3\/xz = 5); omega))
       have HE:Hid (true = true):=qz rfl;go_wp2_with fail;go_meet;exact ⟨by first | rfl | (rw [HE.out]; done) | (rw [HE.out]; rfl),qz (Below.refl _ _)⟩
     case rest =>
      obtain ⟨rfl,HBX⟩:=hcut;have HU:=qz (HV.out.step HBX.out);have HY:=qz (HVB.out.below HBX.out HVB.out.lt);obtain ⟨ya0,ya1,ya2,ya3,ya4⟩:=ce5 HY.out;obtain ⟨za0,za1,za2,za3,za4,za5⟩:=ce6 HU.out.x;go_upto_region 12 with (fail)
      go_cut [7] (fun y wx => y = .bool bc/\Hid (Below X.heap.size X wx))
      case first =>
       clear HN3 HFF2 HN HR3 HRS HRS2;by_cases pm:xc = -1
       ·
        subst pm;obtain rfl:bc = true:=HBC.out.2 (.inl rfl);go_wp2_with fail;go_meet;exact ⟨rfl,HBX⟩
       ·
        have hpm:(xc == -1) = false:=by simpa using pm
        by_cases p5:xz = 5
        ·
         subst p5
         obtain rfl:bc = false:=bool14_of HBC.out (fun h => by
          rcases h with h | h
          · exact pm h
          · exact h.1 rfl)
         go_wp2_with fail;go_meet;exact ⟨rfl,HBX⟩
        ·
         have hp5:(xz == 5) = false:=by simpa using p5
         obtain ⟨bs,hbs⟩:=ex_bool14 (us14 usH S.H xc = true/\(at14 usH S.H xc).s = 4/\(at14 usH S.H xc).f = (k:Int))
         have HE:Hid (bc = bs):=qz (by
          rw [Bool.eq_iff_iff,HBC.out,hbs];constructor
          ·
           rintro (h | ⟨_,h1,h2⟩)
           · exact absurd h pm
           ·
            refine ⟨?_,h1,h2⟩
            cases hu:us14 usH S.H xc with
            | true => rfl
            | false => rw [at14_out hu] at h1; cases h1
          ·
           rintro ⟨_,h1,h2⟩
           exact .inr ⟨p5,h1,h2⟩)
         have HC:=qz (ris14 _ S xc 4 (k:Int) bs _ HU.out.st hbs);clear hbs;go_wp2_with fail;refine HC.out.mono ?_;rintro e u ⟨rfl,hb1⟩;have HB1:=qz (HBX.out.trans (hb1.mono HBX.out.size));clear hb1 HC;go_wp2_with fail;go_meet;exact ⟨by first | rfl | (rw [HE.out]; done) | (rw [HE.out]; rfl) | (rw [HE.out]; simp [p5]),HB1⟩
      case rest =>
       clear ya0 ya1 ya2 ya3 ya4 za0 za1 za2 za3 za4 za5 HU HY HBX;obtain ⟨rfl,HBX⟩:=hcut;have HU:=qz (HV.out.step HBX.out);have HY:=qz (HVB.out.below HBX.out HVB.out.lt);obtain ⟨yb0,yb1,yb2,yb3,yb4⟩:=ce5 HY.out;obtain ⟨zb0,zb1,zb2,zb3,zb4,zb5⟩:=ce6 HU.out.x;by_cases o1:xq = 1/\xu = 1
       ·
        obtain ⟨rfl,rfl⟩:=o1
        cases bf with
        | false =>
         have HF:=HFF2.out (fun h => by have h1:=HBF.out.2 (h.1 HUS.out).1; cases h1);go_wp2_with fail;go_ret
         exact ⟨by rw [HF.out]; rfl,HU.out.b⟩
        | true =>
         cases bc with
         | false =>
          have HF:=HFF2.out (fun h => by have h1:=HBC.out.2 (h.1 HUS.out).2.1; cases h1);go_wp2_with fail;go_ret
          exact ⟨by rw [HF.out]; rfl,HU.out.b⟩
         | true =>
          have HN2:=HN3.out ⟨fun _ => ⟨HBF.out.1 rfl,HBC.out.1 rfl,.inl ⟨rfl,rfl⟩⟩,fun h => (by rw [HUS.out] at h; cases h)⟩;go_wp2_with fail;go_roundw
          case rel => exact ⟨k + 1,by rw [HR3.out],by go_num,by omega,HN2,HU⟩
          case measure => simp [intOf]; omega
       ·
        obtain ⟨bq1,hbq1⟩:=exq ((xq == 1));have hone:(bq1 && (xu == 1)) = false:=by rw [<- hbq1]; simpa using o1
        have HQ1:=qz hbq1;have HONE:=qz hone;obtain ⟨bu1,hbu1⟩:=exq ((xu == 1));have HO1:=qz o1;rw [hbu1] at hone;go_upto_region 13 with (fail)
        go_cut [8] (fun y wx => y = .bool false/\Hid (wc = wx))
        case first =>
         cases bq1 with
         | false =>
          go_wp2_with fail;go_meet
          exact ⟨rfl,qz rfl⟩
         | true =>
          obtain rfl:bu1 = false:=hone;go_wp2_with fail;go_meet;exact ⟨rfl,qz rfl⟩
        case rest =>
         obtain ⟨rfl,HXW⟩:=hcut;obtain rfl:=HXW.out;clear HXW;clear hbq1 hbu1 hone
         cases bf with
         | false =>
          have HF:=HFF2.out (fun h => by have h1:=HBF.out.2 (h.1 HUS.out).1; cases h1);go_wp2_with fail;go_ret
          exact ⟨by rw [HF.out]; rfl,HU.out.b⟩
         | true =>
          cases bc with
          | false =>
           have HF:=HFF2.out (fun h => by have h1:=HBC.out.2 (h.1 HUS.out).2.1; cases h1);go_wp2_with fail;go_ret
           exact ⟨by rw [HF.out]; rfl,HU.out.b⟩
          | true =>
           have HFQ:=qz (fun (hn:¬ (1<=xu/\xu < xq/\xq<=sq)) => HFF2.out (fun h => by
            rcases (h.1 HUS.out).2.2 with h1 | h1
            · exact HO1.out h1
            ·
             have h2:1<=xu/\xu < xq/\xq<=S.q:=h1;rw [HSQ.out] at h2
             exact hn h2))
           by_cases f1:xu < 1
           ·
            have HF:=HFQ.out (by omega);go_wp2_with fail;go_ret;exact ⟨by rw [HF.out]; rfl,HU.out.b⟩
           ·
            by_cases f2:xq<=xu
            ·
             have HF:=HFQ.out (by omega);go_wp2_with fail;go_ret;exact ⟨by rw [HF.out]; rfl,HU.out.b⟩
            ·
             by_cases f3:sq < xq
             ·
              have HF:=HFQ.out (by omega);go_wp2_with fail;go_ret;exact ⟨by rw [HF.out]; rfl,HU.out.b⟩
             ·
              have HN2:=HN3.out ⟨fun _ => ⟨HBF.out.1 rfl,HBC.out.1 rfl,.inr (by show 1<=xu/\xu < xq/\xq<=S.q; rw [HSQ.out]; omega)⟩,fun h => (by rw [HUS.out] at h; cases h)⟩;go_wp2_with fail;go_roundw
              case rel => exact ⟨k + 1,by rw [HR3.out],by go_num,by omega,HN2,HU⟩
              case measure => simp [intOf]; omega
  ·
   obtain rfl:k = n2:=by omega
   have HE:Hid (b = true↔rn < 2/\k<=32/\(k = 0\/usH (gt14 S.H (k - 1)) = true)):=qz (by
    rw [HBT.out];constructor
    ·
     intro h;have h1:=h.1.1;have h2:=h.1.2.1;have h3:=h.2.2;rw [HLH.out] at h1 h2 h3;rw [HRN.out] at h3;exact ⟨by omega,h1,en14_full.1 h2⟩
    ·
     rintro ⟨h0,h1,h2⟩
     exact ⟨⟨by rw [HLH.out]; exact h1,by rw [HLH.out]; exact en14_full.2 h2,fun j hj => (HN.out j (by rw [HLH.out] at hj; exact hj)).2⟩,fun j hj => (HN.out j (by rw [HLH.out] at hj; exact hj)).1,by rw [HLH.out,HRN.out]; omega⟩)
   have h1:¬ (k:Int) < (k:Int):=by omega
   by_cases hr2:rn < 2
   ·
    have hr3:(rn:Int) < 2:=by omega
    by_cases hm:k<=32
    ·
     by_cases hz:k = 0
     ·
      subst hz;have HF:Hid (b = true):=qz (HE.out.2 ⟨hr2,by omega,.inl rfl⟩);clear hr2;go_wp2_with fail;go_ret;exact ⟨by rw [HF.out]; rfl,HW.out.b⟩
     ·
      obtain ⟨q,hqk⟩:∃ q,k = q + 1:=⟨k - 1,by omega⟩
      have HQK:=qz hqk;have hqn:q < k:=by omega
      obtain ⟨a,of,hA,hab,hq⟩:=Lq.at_ len14H (by omega) HW.out.s.r2 (show q < S.H.length by rw [HW.out.s.l2]; omega);subst hA;obtain ⟨x,hx⟩:=exq (gt14 S.H q);have HF:Hid (b = usH x):=qz (by rw [Bool.eq_iff_iff,HE.out,<- hx,HQK.out,Nat.add_sub_cancel]; exact ⟨fun h => h.2.2.resolve_left (by omega),fun h => ⟨hr2,by omega,.inr h⟩⟩);rw [hx] at hq
      obtain ⟨xz,xf,xc,xq,xu⟩:=x;have e0:wr.cell? ⟨a,of + q * 5,none⟩ = some (.int .i64 xz):=hq 0 _ rfl;have hw:IntKind.i64.wrap ((k:Int) - 1) = (q:Int):=by rw [IntKind.wrap_i64]; omega
      have i0:(0:Int)<=(q:Int):=by omega
      have i1:(q:Int) < (k:Int):=by omega
      have d1:(k:Int)<=32:=by omega
      have d2:((k:Int) == 0) = false:=by simp; omega
      clear hq hx hab hz hm HE hqk hqn hr2;by_cases z0:xz = 0
      ·
       subst z0;go_wp2_with fail;go_ret;exact ⟨by rw [HF.out]; rfl,HW.out.b⟩
      ·
       have hz0:(xz != 0) = true:=by simpa using z0
       have HF2:Hid (b = true):=qz (by rw [HF.out]; simp [usH,z0]);clear HF z0;go_wp2_with fail;go_ret;exact ⟨by rw [HF2.out]; rfl,HW.out.b⟩
    ·
     have HF:Hid (b = false):=qz (bool14_of HE.out (fun h => hm h.2.1));have c3:¬ (k:Int)<=32:=by omega
     clear hm HE hr2;go_wp2_with fail;go_ret;exact ⟨by rw [HF.out]; rfl,HW.out.b⟩
   ·
    have HF:Hid (b = false):=qz (bool14_of HE.out (fun h => hr2 h.1));have hr3:¬ (rn:Int) < 2:=by omega
    clear HE hr2;go_wp2_with fail;go_ret;exact ⟨by rw [HF.out]; rfl,HW.out.b⟩
end
end Go.Proofs.YtkdmnlihpebbkaaGreat
