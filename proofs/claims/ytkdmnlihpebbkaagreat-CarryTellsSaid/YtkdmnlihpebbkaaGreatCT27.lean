import Derived.Test.YtkdmnlihpebbkaaGreatCT26
set_option linter.all false
set_option maxHeartbeats 8000000
namespace Go.Proofs.YtkdmnlihpebbkaaGreat
section
open Go.RowKit
set_option maxRecDepth 100000
structure Al19 (w:World) (S:Sv14) (A0 A1 A2 A3 A4:Option Addr) (n0 n1 n2 n3 n4 c0 c1 c2 c3 c4:Nat) (sq:Int) (g lo E:Nat) (x:Nat->Rat) (q:Nat->Nat × Nat) (W:World):Prop where
 b:By16 w S A0 A1 A2 A3 A4 n0 n1 n2 n3 n4 c0 c1 c2 c3 c4 sq W
 r:Qr18 W g n2 q
 s:Hs19 W lo E n2 x
 gl:g < lo
 gw:w.heap.size + 1<=g
 ge:E≠g
theorem Al19.step {w:World} {S:Sv14} {A0 A1 A2 A3 A4:Option Addr} {n0 n1 n2 n3 n4 c0 c1 c2 c3 c4:Nat} {sq:Int} {g lo E:Nat} {x:Nat->Rat} {q:Nat->Nat × Nat} {W W':World} (h:Al19 w S A0 A1 A2 A3 A4 n0 n1 n2 n3 n4 c0 c1 c2 c3 c4 sq g lo E x q W) (hb:Below W.heap.size W W'):Al19 w S A0 A1 A2 A3 A4 n0 n1 n2 n3 n4 c0 c1 c2 c3 c4 sq g lo E x q W':=⟨h.b.step hb,h.r.step hb,h.s.step hb,h.gl,h.gw,h.ge⟩
theorem Al19.put {w:World} {S:Sv14} {A0 A1 A2 A3 A4:Option Addr} {n0 n1 n2 n3 n4 c0 c1 c2 c3 c4:Nat} {sq:Int} {g lo E k a b:Nat} {x:Nat->Rat} {q:Nat->Nat × Nat} {W:World} (h:Al19 w S A0 A1 A2 A3 A4 n0 n1 n2 n3 n4 c0 c1 c2 c3 c4 sq g lo E x q W) (hk:k < n2) {D1 D2:Option Addr} {k1 t1 k2 t2 L1 L2:Nat} (hx:Nv W L1 (.slice D1 k1 t1) a) (hy:Nv W L2 (.slice D2 k2 t2) b) :
  Al19 w S A0 A1 A2 A3 A4 n0 n1 n2 n3 n4 c0 c1 c2 c3 c4 sq g lo E x (upd q k (a,b)) (putq18 W g k (.slice D1 k1 t1) (.slice D2 k2 t2)) :=
 ⟨h.b.low (below_putq18 (Below.refl _ _) h.gw _ _),h.r.put hk hx hy,h.s.put h.r hk h.gl h.ge _ _,h.gl,h.gw,h.ge⟩
theorem all19 (v:Value) (S:Sv14) (wC wT:Nat->Rat) (w:World) (h:St14 w v S) (hf:Fine14 S) (hw:Wo18 S wC wT) :
  Calls Tryz.prog 12 #[v] w (RetQs18 w S.H.length (fun i => qr18 (car19 S (th18 S wT) i))):=by
 obtain ⟨A0,A1,A2,A3,A4,n0,n1,n2,n3,n4,c0,c1,c2,c3,c4,sq,rfl,hs⟩:=h;obtain ⟨cr,hcr⟩:=exq (car19 S (th18 S wT));have HA:=qz (fun W (h:Bx14 w S A0 A1 A2 A3 A4 n0 n1 n2 n3 n4 c0 c1 c2 c3 c4 sq W) => handed19 (.agg #[.slice A0 n0 c0,.slice A1 n1 c1,.slice A2 n2 c2,.slice A3 n3 c3,.slice A4 n4 c4,.int .i64 sq]) S wC wT W h.st hf hw);rw [hcr] at HA ⊢
 have HP:Hid (RetQs18 w S.H.length (fun i => qr18 (cr i)) = fun e w' => ∃ g,e = .returned (.slice (some ⟨g,0,none⟩) n2 n2)/\w.heap.size<=g/\Qr18 w' g n2 (fun i => qr18 (cr i))/\Below w.heap.size w w'):=qz (by unfold RetQs18; rw [hs.l2]);have hm2:=hs.m2;have hmk:=make_ratios18 n2 (by omega)
 have hx0:By16 w S A0 A1 A2 A3 A4 n0 n1 n2 n3 n4 c0 c1 c2 c3 c4 sq _:=⟨Bx14.new hs,hs⟩
 obtain ⟨W1,hW1⟩:=exq (w.alloc (.cells #[.slice A0 n0 c0,.slice A1 n1 c1,.slice A2 n2 c2,.slice A3 n3 c3,.slice A4 n4 c4,.int .i64 sq] 28));have hz1:W1.heap.size = w.heap.size + 1:=by rw [<- hW1]; simp
 rw [hW1] at hx0;have hba:=b1' W1 (.cells (madeCells #[.slice none 0 0,.slice none 0 0] (n2 * 2)) 46);have hr2:=made18 W1 n2;have hx2:=hx0.step hba;have hz2:(W1.alloc (.cells (madeCells #[.slice none 0 0,.slice none 0 0] (n2 * 2)) 46)).heap.size = W1.heap.size + 1:=by simp
 obtain ⟨W2,hW2⟩:=exq (W1.alloc (.cells (madeCells #[.slice none 0 0,.slice none 0 0] (n2 * 2)) 46));obtain ⟨g,hgd⟩:=exq W1.heap.size;rw [hW2] at hr2 hx2 hz2;rw [hgd] at hr2 hz2;have hgw:w.heap.size + 1<=g:=by omega
 have HX2:=qz hx2;have HR2:=qz hr2;have HZ2:=qz hz2;have x2:=hx0.b.x.cell 2;have HL2:=qz hs.l2;clear hs hf hw hx0 hba hr2 hx2 hz1 hz2 hcr;go_enter Tryz.func12,Tryz.ntmps12;go_upto_region 2 with (fail)
 clear hmk
 try rw [hW1]
 try rw [hW2]
 try rw [hgd]
 clear hW1 hW2 hgd x2;obtain ⟨x0,x1,x2,x3,x4,x5⟩:=ce6 HX2.out.b.x;go_wp2_with fail;refine (HA.out _ HX2.out.b).mono ?_;rintro e w0 ⟨E,rfl,hE,hEl,hsm,hb⟩;rw [HL2.out] at hsm ⊢
 have HW0:Hid (Al19 w S A0 A1 A2 A3 A4 n0 n1 n2 n3 n4 c0 c1 c2 c3 c4 sq g W2.heap.size E cr (fun _ => (0,0)) w0):=qz ⟨HX2.out.step hb,HR2.out.step hb,hsm,by have:=HZ2.out; omega,hgw,by have:=HZ2.out; omega⟩;clear hE hEl hsm hb HX2 HR2 HA x0 x1 x2 x3 x4 x5;go_wp2_with fail
 go_loopw [13] (fun i wr => ∃ (k:Nat) (q:Nat->Nat × Nat),i = .int .i64 (k:Int)/\k<=n2/\Hid (∀ j,j < k->q j = qr18 (cr j))/\Hid (Al19 w S A0 A1 A2 A3 A4 n0 n1 n2 n3 n4 c0 c1 c2 c3 c4 sq g W2.heap.size E cr q wr)) (fun i _ => n2 - (intOf i).toNat)
 case atStart => exact ⟨0,_,rfl,by omega,qz (fun j hj => by omega),HW0⟩
 case round =>
  clear HW0;obtain ⟨k,q,rfl,hk,HM,HW⟩:=hrel;by_cases hkn:k < n2
  ·
   have i0:(0:Int)<=(k:Int):=by omega
   have i1:(k:Int) < (n2:Int):=by omega
   obtain ⟨A,L,m,c,e1,e2,e3,e4,e5,_⟩:=HW.out.s k hkn;have HSU:=qz (sum18_any A L m c wr e2 e3 e4);rw [e5] at HSU;clear e2 e3 e4 e5;go_wp2_with fail;refine HSU.out.mono ?_;rintro e w4 ⟨A1,i1',t1,A2,i2,t2,rfl,hx,hy,hb4⟩;have h4:=HW.out.step hb4;obtain ⟨B1,m1,d1,B2,m2,d2,f1,f2,_,_,f3,f4⟩:=h4.r.cells hkn;have HN:=qz (h4.put hkn hx hy)
   have HMN:Hid (∀ j,j < k + 1->upd q k ((qr18 (cr k)).1,(qr18 (cr k)).2) j = qr18 (cr j)):=qz (fun j hj => by
    by_cases e:j = k
    · subst e; rw [upd_at]
    · rw [upd_far _ _ e]; exact HM.out j (by omega))
   clear hb4 h4 hx hy HW HM HSU e1;go_wp2_with fail;go_roundw
   case rel => exact ⟨k + 1,_,by go_num,by omega,HMN,HN⟩
   case measure => simp [intOf]; omega
  ·
   obtain rfl:n2 = k:=by omega
   have i1:¬ (n2:Int) < (n2:Int):=by omega
   go_wp2_with fail;go_ret;rw [HP.out];exact ⟨_,rfl,by have:=HW.out.gw; omega,HW.out.r.congr HM.out,HW.out.b.b.b⟩
noncomputable def cw19 (S:Sv14) (w:Nat->Rat) (i:Int):Rat:=if us14 usH S.H i = true then car19 S w i.toNat else 0
theorem cw19_nat {S:Sv14} (hf:Fine14 S) {wT:Nat->Rat} (k:Nat):cw19 S (th18 S wT) (k:Int) = car19 S (th18 S wT) k:=by
 unfold cw19
 cases hu:us14 usH S.H (k:Int) with
 | true => rw [if_pos rfl,Int.toNat_natCast]
 | false => rw [if_neg (by decide),car19_unused hf hu]
theorem at19 (v:Value) (S:Sv14) (wC wT:Nat->Rat) (k:Int) (w:World) (h:St14 w v S) (hf:Fine14 S) (hw:Wo18 S wC wT) :
  Calls Tryz.prog 14 #[v,.int .i64 k] w (RetQ w (qr18 (cw19 S (th18 S wT) k)).1 (qr18 (cw19 S (th18 S wT) k)).2):=by
 obtain ⟨A0,A1,A2,A3,A4,n0,n1,n2,n3,n4,c0,c1,c2,c3,c4,sq,rfl,hs⟩:=h;have hx0:=Bx14.new hs;obtain ⟨W1,hW1⟩:=exq (w.alloc (.cells #[.slice A0 n0 c0,.slice A1 n1 c1,.slice A2 n2 c2,.slice A3 n3 c3,.slice A4 n4 c4,.int .i64 sq] 28));have hz1:W1.heap.size = w.heap.size + 1:=by rw [<- hW1]; simp
 rw [hW1] at hx0;have hb2:=b1' W1 (.cells #[.slice none 0 0,.slice none 0 0] 46);have hk2:=Blk.new W1 46 #[.slice none 0 0,.slice none 0 0];obtain ⟨W2,hW2⟩:=exq (W1.alloc (.cells #[.slice none 0 0,.slice none 0 0] 46));rw [hW2,hz1] at hk2;rw [hW2] at hb2;have hx2:=hx0.step hb2;have HX2:=qz hx2;have HO2:=qz hk2;have hl2:=hk2.lt
 obtain ⟨x0,x1,x2,x3,x4,x5⟩:=ce6 hx2.x;obtain ⟨x,hx⟩:=exq (at14 usH S.H k);obtain ⟨xz,xf,xc,xq,xu⟩:=x;obtain ⟨b,hb⟩:=exq (us14 usH S.H k)
 have HTI:=qz (fun W (h:Bx14 w S A0 A1 A2 A3 A4 n0 n1 n2 n3 n4 c0 c1 c2 c3 c4 sq W) => thread14 (.agg #[.slice A0 n0 c0,.slice A1 n1 c1,.slice A2 n2 c2,.slice A3 n3 c3,.slice A4 n4 c4,.int .i64 sq]) S k xz xf xc xq xu b W h.st hb hx)
 have HA:=qz (fun W (h:Bx14 w S A0 A1 A2 A3 A4 n0 n1 n2 n3 n4 c0 c1 c2 c3 c4 sq W) => handed19 (.agg #[.slice A0 n0 c0,.slice A1 n1 c1,.slice A2 n2 c2,.slice A3 n3 c3,.slice A4 n4 c4,.int .i64 sq]) S wC wT W h.st hf hw);have HL2:=qz hs.l2;obtain ⟨cr,hcr⟩:=exq (car19 S (th18 S wT));rw [hcr] at HA;unfold cw19;rw [hb,hcr];have HB:=qz hb
 clear hs hx0 hb2 hk2 hx2 hb hx hf hw hcr
 cases b with
 | false =>
 rw [if_neg (by decide),qr18_zero];clear HA;go_enter Tryz.func14,Tryz.ntmps14;go_wp2_with fail;refine (HTI.out _ HX2.out).mono ?_;rintro e w3 ⟨rfl,hb3⟩;have hb4:=hb3.trans ((b1' w3 (.cells #[.int .i64 xz,.int .i64 xf,.int .i64 xc,.int .i64 xq,.int .i64 xu] 60)).mono hb3.size);have HX3:=qz (HX2.out.step hb4);have HO3:=qz (HO2.out.below hb4 hl2)
 clear hb3 hb4 HTI HX2 HO2 x0 x1 x2 x3 x4 x5;go_wp2_with fail;refine (ratioZero_r _).mono ?_;rintro e w4 ⟨A1,i1',t1,A2,i2,t2,rfl,hx,hy,hb4⟩;have HX4:=qz (HX3.out.step hb4);have HO4:=qz (HO3.out.below hb4 HO3.out.lt);have hl3:=HO3.out.lt;have HX:=qz hx;have HY:=qz hy;have r0:=HO4.out.cell 0;have r1:=HO4.out.cell 1;have f0:=HO4.out.frozen 0
 have f1:=HO4.out.frozen 1;clear hx hy hb4 HX3 HO3 hW1 hW2
 try rw [hz1]
 clear hz1;go_wp2_with fail;have hp:=put_q HO4.out (.slice A1 i1' t1) (.slice A2 i2 t2)
 exact bodyPost_ret (v:=.agg #[.slice A1 i1' t1,.slice A2 i2 t2]) (by simp [results,Tryz.results14,go_sem,hp.cell 0,hp.cell 1]) rfl
  ⟨_,_,_,_,_,_,rfl,(HX.out.put_q hl3 _ _).more (by omega),(HY.out.put_q hl3 _ _).more (by omega),(HX4.out.b.setCell (by show w.heap.size<=w.heap.size + 1; omega) _).setCell (by show w.heap.size<=w.heap.size + 1; omega) _⟩
 | true =>
 have hin:=ush16_lt HB.out;obtain ⟨j,rfl⟩:∃ j:Nat,k = (j:Int):=⟨k.toNat,by omega⟩
 rw [if_pos rfl,Int.toNat_natCast];have hjn:j < n2:=by have:=HL2.out; omega
 have i0:(0:Int)<=(j:Int):=by omega
 have i1:(j:Int) < (n2:Int):=by omega
 clear hin;go_enter Tryz.func14,Tryz.ntmps14;go_wp2_with fail;refine (HTI.out _ HX2.out).mono ?_;rintro e w3 ⟨rfl,hb3⟩;have hb4:=hb3.trans ((b1' w3 (.cells #[.int .i64 xz,.int .i64 xf,.int .i64 xc,.int .i64 xq,.int .i64 xu] 60)).mono hb3.size);have HX3:=qz (HX2.out.step hb4);have HO3:=qz (HO2.out.below hb4 hl2);have hx3:=HX3.out.x
 obtain ⟨y0,y1,y2,y3,y4,y5⟩:=ce6 hx3;clear hx3 hb3 hb4 HTI HX2 HO2 x0 x1 x2 x3 x4 x5;go_wp2_with fail;refine (HA.out _ HX3.out).mono ?_;rintro e w0 ⟨E,rfl,_,hEl,hsm,hb⟩;rw [HL2.out] at hsm ⊢;obtain ⟨A,L,m,c,e1,e2,e3,e4,e5,_⟩:=hsm j hjn;have HSU:=qz (sum18_any A L m c w0 e2 e3 e4);rw [e5] at HSU;have HX3:=qz (HX3.out.step hb)
 have HO3:=qz (HO3.out.below hb HO3.out.lt);clear e2 e3 e4 e5 hsm hb HA y0 y1 y2 y3 y4 y5;go_wp2_with fail;refine HSU.out.mono ?_;rintro e w4 ⟨A1,i1',t1,A2,i2,t2,rfl,hx,hy,hb4⟩;have HX4:=qz (HX3.out.step hb4);have HO4:=qz (HO3.out.below hb4 HO3.out.lt);have hl3:=HO3.out.lt;have HX:=qz hx;have HY:=qz hy;have r0:=HO4.out.cell 0;have r1:=HO4.out.cell 1
 have f0:=HO4.out.frozen 0;have f1:=HO4.out.frozen 1;clear hx hy hb4 HX3 HO3 hW1 hW2 HSU e1
 try rw [hz1]
 clear hz1;go_wp2_with fail;have hp:=put_q HO4.out (.slice A1 i1' t1) (.slice A2 i2 t2)
 exact bodyPost_ret (v:=.agg #[.slice A1 i1' t1,.slice A2 i2 t2]) (by simp [results,Tryz.results14,go_sem,hp.cell 0,hp.cell 1]) rfl
  ⟨_,_,_,_,_,_,rfl,(HX.out.put_q hl3 _ _).more (by omega),(HY.out.put_q hl3 _ _).more (by omega),(HX4.out.b.setCell (by show w.heap.size<=w.heap.size + 1; omega) _).setCell (by show w.heap.size<=w.heap.size + 1; omega) _⟩
def en19 (S:Sv14) (n:Nat):List Nat:=all11 (fun e => decide (go19 S e)) n
theorem en19_next (S:Sv14) (k:Nat) {z f c q u:Int} (h:gt14 S.H k = ⟨z,f,c,q,u⟩):en19 S (k + 1) = en19 S k ++ if z = 2\/z = 3 then [k] else []:=by
 have hg:go19 S k↔z = 2\/z = 3:=by unfold go19; rw [h]
 unfold en19;rw [all11_next];by_cases h2:go19 S k
 · rw [if_pos (by simpa using h2),if_pos (hg.1 h2)]
 · rw [if_neg (by simpa using h2),if_neg (fun h3 => h2 (hg.2 h3))]
theorem en19_len (S:Sv14) (n:Nat):(en19 S n).length<=n:=all11_len _ _
theorem en19_lt {S:Sv14} {n e:Nat} (h:e∈en19 S n):e < n:=by
 unfold en19 all11 at h;rw [List.mem_filter,List.mem_range] at h;exact h.1
theorem ends19 (v:Value) (S:Sv14) (w:World) (h:St14 w v S):Calls Tryz.prog 16 #[v] w (RetR15 w (en19 S S.H.length)):=by
 obtain ⟨A0,A1,A2,A3,A4,n0,n1,n2,n3,n4,c0,c1,c2,c3,c4,sq,rfl,hs⟩:=h;have HP:Hid (RetR15 w (en19 S S.H.length) = fun e w' => ∃ A c,e = .returned (.slice A (en19 S n2).length c)/\Rd w' w'.heap.size A (en19 S n2)/\Below w.heap.size w w'):=qz (by rw [hs.l2]; rfl)
 have HX0:Hid (Ti15 w (w.heap.size + 1) S A0 A1 A2 A3 A4 n0 n1 n2 n3 n4 c0 c1 c2 c3 c4 sq none 0 0 (en19 S 0) (w.alloc (.cells #[.slice A0 n0 c0,.slice A1 n1 c1,.slice A2 n2 c2,.slice A3 n3 c3,.slice A4 n4 c4,.int .i64 sq] 28))):=qz (Ti15.start hs (Bx14.new hs) (by omega) (by simp));have hnb:=hs.m2;have t1:=HX0.out.b.x.cell 2;clear hs
 go_enter Tryz.func16,Tryz.ntmps16;go_wp2_with fail;clear t1;go_loopw [2,8] (fun v i wr => ∃ (k:Nat) (A:Option Addr) (m c:Nat),v = .slice A m c/\i = .int .i64 (k:Int)/\k<=n2/\Hid (Ti15 w (w.heap.size + 1) S A0 A1 A2 A3 A4 n0 n1 n2 n3 n4 c0 c1 c2 c3 c4 sq A m c (en19 S k) wr)) (fun _ i _ => n2 - (intOf i).toNat)
 case atStart => exact ⟨0,none,0,0,rfl,rfl,by omega,HX0⟩
 case round =>
  clear HX0;obtain ⟨k,A,m,c,rfl,rfl,hk,HW⟩:=hrel;by_cases hkn:k < n2
  ·
   obtain ⟨a,of,hA,hab,hq⟩:=Lq.at_ len14H (by omega) HW.out.b.s.r2 (show k < S.H.length by rw [HW.out.b.s.l2]; omega);obtain ⟨x,hx⟩:=exq (gt14 S.H k);rw [hx] at hq;obtain ⟨xz,xf,xc,xq,xu⟩:=x;have e0:wr.cell? ⟨a,of + k * 5,none⟩ = some (.int .i64 xz):=hq 0 _ rfl;have e1:wr.cell? ⟨a,of + k * 5 + 1,none⟩ = some (.int .i64 xf):=hq 1 _ rfl
   have e2:wr.cell? ⟨a,of + k * 5 + 2,none⟩ = some (.int .i64 xc):=hq 2 _ rfl;have e3:wr.cell? ⟨a,of + k * 5 + 3,none⟩ = some (.int .i64 xq):=hq 3 _ rfl;have e4:wr.cell? ⟨a,of + k * 5 + 4,none⟩ = some (.int .i64 xu):=hq 4 _ rfl;have HV:=qz (HW.out.step (b1' wr (.cells #[.int .i64 xz,.int .i64 xf,.int .i64 xc,.int .i64 xq,.int .i64 xu] 60)))
   have hv:=Blk.new wr 60 #[.int .i64 xz,.int .i64 xf,.int .i64 xc,.int .i64 xq,.int .i64 xu];have v0:=hv.cell 0;obtain ⟨X,hX⟩:=exq (wr.alloc (.cells #[.int .i64 xz,.int .i64 xf,.int .i64 xc,.int .i64 xq,.int .i64 xu] 60));rw [hX] at HV v0;clear hv;have i0:(0:Int)<=(k:Int):=by omega
   have i1:(k:Int) < (n2:Int):=by omega
   have hmk:m<=k:=by rw [<- HW.out.l]; exact en19_len S k
   have hnx:=en19_next S k hx;clear hq hx hab;subst hA;by_cases z2:xz = 2
   ·
    subst z2;have HE:Hid (en19 S (k + 1) = en19 S k ++ [k]):=qz (by rw [hnx,if_pos (.inl rfl)]);clear hnx;obtain ⟨Az,cz,W2,hrun,har,_⟩:=HV.out.push k (by omega);have HRUN:=qz hrun;have HAR:=qz (har.congr HE.out.symm);clear hrun har;go_wp2_with (at_builtin; go_loud (refine wpList_append_14 _ rfl (.tmp 21) (.tmp 23) 26 rfl _ _ _ _ rfl rfl HRUN.out ?_))
    go_roundw
    case rel => exact ⟨k + 1,Az,m + 1,cz,rfl,by go_num,by omega,HAR⟩
    case measure => simp [intOf]; omega
   ·
    have z2b:(xz == 2) = false:=by simp [z2]
    by_cases z3:xz = 3
    ·
     subst z3;have HE:Hid (en19 S (k + 1) = en19 S k ++ [k]):=qz (by rw [hnx,if_pos (.inr rfl)]);clear hnx;obtain ⟨Az,cz,W2,hrun,har,_⟩:=HV.out.push k (by omega);have HRUN:=qz hrun;have HAR:=qz (har.congr HE.out.symm);clear hrun har;go_wp2_with (at_builtin; go_loud (refine wpList_append_14 _ rfl (.tmp 21) (.tmp 23) 26 rfl _ _ _ _ rfl rfl HRUN.out ?_))
     go_roundw
     case rel => exact ⟨k + 1,Az,m + 1,cz,rfl,by go_num,by omega,HAR⟩
     case measure => simp [intOf]; omega
    ·
     have z3b:(xz == 3) = false:=by simp [z3]
     have HN:=qz (HV.out.congr (ys:=en19 S (k + 1)) (by rw [hnx,if_neg (fun h => by rcases h with h | h; exact z2 h; exact z3 h),List.append_nil]));clear hnx;go_wp2_with fail;go_roundw
     case rel => exact ⟨k + 1,A,m,c,rfl,by go_num,by omega,HN⟩
     case measure => simp [intOf]; omega
  ·
   obtain rfl:k = n2:=by omega
   have HL:=qz HW.out.l;have h1:¬ (k:Int) < (k:Int):=by omega
   go_wp2_with fail;go_ret;rw [HP.out];exact ⟨A,c,by rw [HL.out]; rfl,HW.out.rd,HW.out.b.b⟩
theorem rends19 (v:Value) (S:Sv14) (w:World) (h:St14 w v S):Calls Tryz.prog 17 #[v] w (RetR15 w (en19 S S.H.length)):=by
 obtain ⟨A0,A1,A2,A3,A4,n0,n1,n2,n3,n4,c0,c1,c2,c3,c4,sq,rfl,hs⟩:=h;have HP:Hid (RetR15 w (en19 S S.H.length) = fun e w' => ∃ A c,e = .returned (.slice A (en19 S n2).length c)/\Rd w' w'.heap.size A (en19 S n2)/\Below w.heap.size w w'):=qz (by rw [hs.l2]; rfl)
 have HX0:Hid (Ti15 w (w.heap.size + 1) S A0 A1 A2 A3 A4 n0 n1 n2 n3 n4 c0 c1 c2 c3 c4 sq none 0 0 (en19 S 0) (w.alloc (.cells #[.slice A0 n0 c0,.slice A1 n1 c1,.slice A2 n2 c2,.slice A3 n3 c3,.slice A4 n4 c4,.int .i64 sq] 28))):=qz (Ti15.start hs (Bx14.new hs) (by omega) (by simp));have hnb:=hs.m2;have t1:=HX0.out.b.x.cell 2;clear hs
 go_enter Tryz.func17,Tryz.ntmps17;go_wp2_with fail;clear t1;go_loopw [3,4] (fun v i wr => ∃ (k:Nat) (A:Option Addr) (m c:Nat),v = .slice A m c/\i = .int .i64 (k:Int)/\k<=n2/\Hid (Ti15 w (w.heap.size + 1) S A0 A1 A2 A3 A4 n0 n1 n2 n3 n4 c0 c1 c2 c3 c4 sq A m c (en19 S k) wr)) (fun _ i _ => n2 - (intOf i).toNat)
 case atStart => exact ⟨0,none,0,0,rfl,rfl,by omega,HX0⟩
 case round =>
  clear HX0;obtain ⟨k,A,m,c,rfl,rfl,hk,HW⟩:=hrel;by_cases hkn:k < n2
  ·
   obtain ⟨a,of,hA,hab,hq⟩:=Lq.at_ len14H (by omega) HW.out.b.s.r2 (show k < S.H.length by rw [HW.out.b.s.l2]; omega);obtain ⟨x,hx⟩:=exq (gt14 S.H k);rw [hx] at hq;obtain ⟨xz,xf,xc,xq,xu⟩:=x;have e0:wr.cell? ⟨a,of + k * 5,none⟩ = some (.int .i64 xz):=hq 0 _ rfl;have HV:=HW;have y2:=HW.out.b.x.cell 2;have i0:(0:Int)<=(k:Int):=by omega
   have i1:(k:Int) < (n2:Int):=by omega
   have hmk:m<=k:=by rw [<- HW.out.l]; exact en19_len S k
   have hnx:=en19_next S k hx;clear hq hx hab;subst hA;by_cases z2:xz = 2
   ·
    subst z2;have HE:Hid (en19 S (k + 1) = en19 S k ++ [k]):=qz (by rw [hnx,if_pos (.inl rfl)]);clear hnx;obtain ⟨Az,cz,W2,hrun,har,_⟩:=HV.out.push k (by omega);have HRUN:=qz hrun;have HAR:=qz (har.congr HE.out.symm);clear hrun har;go_wp2_with (at_builtin; go_loud (refine wpList_append_14 _ rfl (.tmp 28) (.tmp 30) 26 rfl _ _ _ _ rfl rfl HRUN.out ?_))
    go_roundw
    case rel => exact ⟨k + 1,Az,m + 1,cz,rfl,by go_num,by omega,HAR⟩
    case measure => simp [intOf]; omega
   ·
    have z2b:(xz == 2) = false:=by simp [z2]
    by_cases z3:xz = 3
    ·
     subst z3;have HE:Hid (en19 S (k + 1) = en19 S k ++ [k]):=qz (by rw [hnx,if_pos (.inr rfl)]);clear hnx;obtain ⟨Az,cz,W2,hrun,har,_⟩:=HV.out.push k (by omega);have HRUN:=qz hrun;have HAR:=qz (har.congr HE.out.symm);clear hrun har;go_wp2_with (at_builtin; go_loud (refine wpList_append_14 _ rfl (.tmp 28) (.tmp 30) 26 rfl _ _ _ _ rfl rfl HRUN.out ?_))
     go_roundw
     case rel => exact ⟨k + 1,Az,m + 1,cz,rfl,by go_num,by omega,HAR⟩
     case measure => simp [intOf]; omega
    ·
     have z3b:(xz == 3) = false:=by simp [z3]
     have HN:=qz (HV.out.congr (ys:=en19 S (k + 1)) (by rw [hnx,if_neg (fun h => by rcases h with h | h; exact z2 h; exact z3 h),List.append_nil]));clear hnx;go_wp2_with fail;go_roundw
     case rel => exact ⟨k + 1,A,m,c,rfl,by go_num,by omega,HN⟩
     case measure => simp [intOf]; omega
  ·
   obtain rfl:k = n2:=by omega
   have HL:=qz HW.out.l;have h1:¬ (k:Int) < (k:Int):=by omega
   have y2:=HW.out.b.x.cell 2;go_wp2_with fail;go_ret;rw [HP.out];exact ⟨A,c,by rw [HL.out]; rfl,HW.out.rd,HW.out.b.b⟩
structure To19 (w:World) (S:Sv14) (A0 A1 A2 A3 A4:Option Addr) (n0 n1 n2 n3 n4 c0 c1 c2 c3 c4:Nat) (sq:Int) (w1:World) (g:Nat) (A:Option Addr) (m c:Nat) (l:List Nat) (W:World):Prop where
 b:By16 w S A0 A1 A2 A3 A4 n0 n1 n2 n3 n4 c0 c1 c2 c3 c4 sq W
 v:Blk W (w.heap.size + 1) 46 #[.slice none 0 0,.slice none 0 0]
 z:Below w1.heap.size w1 W
 o:W.ownsRow w1.heap.size 46 2 (.slice A m c) m (fl14 (cq19 w1 g) l)
 l:l.length = m
 h:w.heap.size + 1 < w1.heap.size
theorem To19.push {w:World} {S:Sv14} {A0 A1 A2 A3 A4:Option Addr} {n0 n1 n2 n3 n4 c0 c1 c2 c3 c4:Nat} {sq:Int} {w1:World} {g:Nat} {A:Option Addr} {m c:Nat} {l:List Nat} {W:World} (h:To19 w S A0 A1 A2 A3 A4 n0 n1 n2 n3 n4 c0 c1 c2 c3 c4 sq w1 g A m c l W) {x:Nat} {B1 B2:Option Addr} {m1 d1 m2 d2:Nat} (hc:cq19 w1 g x = [.slice B1 m1 d1,.slice B2 m2 d2]) (hm:m<=5000) :
  ∃ A' c' W3,(Builtin.append_ #[40,40] 40 #[.slice A m c,.slice (some ⟨W.heap.size,0,none⟩) 1 1]).run Tryz.prog (W.alloc (.cells #[.slice B1 m1 d1,.slice B2 m2 d2] 46)) = .ok (.slice A' (m + 1) c') W3/\To19 w S A0 A1 A2 A3 A4 n0 n1 n2 n3 n4 c0 c1 c2 c3 c4 sq w1 g A' (m + 1) c' (l ++ [x]) W3:=by
 obtain ⟨A',c',W3,hrun,hown,hg,hB,_⟩:=row19 h.o h.z.size hm B1 B2 m1 d1 m2 d2;have hh:=h.h;refine ⟨A',c',W3,hrun,h.b.low (hB.mono (by omega)),h.v.below hB (by omega),h.z.trans hB,?_,by simp [h.l],h.h⟩;rw [fl14_append,show fl14 (cq19 w1 g) [x] = #[.slice B1 m1 d1,.slice B2 m2 d2].toList by simp [fl14,hc]];exact hown
theorem total19 (v:Value) (S:Sv14) (wC wT:Nat->Rat) (w:World) (h:St14 w v S) (hf:Fine14 S) (hw:Wo18 S wC wT) :
  Calls Tryz.prog 18 #[v] w (RetQ w (qr18 ((amt17 S 0 S.T.length:Int):Rat)).1 (qr18 ((amt17 S 0 S.T.length:Int):Rat)).2):=by
 obtain ⟨A0,A1,A2,A3,A4,n0,n1,n2,n3,n4,c0,c1,c2,c3,c4,sq,rfl,hs⟩:=h
 have hsum:tsum18 (car19 S (th18 S wT)) (en19 S S.H.length) (en19 S S.H.length).length = ((amt17 S 0 S.T.length:Int):Rat):=by
  unfold en19;rw [tsum18_all,<- hw.carry hf];refine sumR_congr (fun k _ => ?_);by_cases h:go19 S k <;> simp [h]
 rw [<- hsum];have h32:n2<=32:=by have:=hf.2.2.1.2.2.1.1; have:=hs.l2; omega
 have hsq:=hw.car_sq hf;have HNN:Hid (∀ k,0<=car19 S (th18 S wT) k):=qz (fun k => car19_nonneg hsq.1 k);have HSM:Hid (∀ k,Sm18 (qr18 (car19 S (th18 S wT) k))):=qz (fun k => ⟨Nat.lt_of_lt_of_le (hsq.2.1 k).2.1 (by decide),Nat.lt_of_lt_of_le (hsq.2.1 k).2.2 (by decide)⟩)
 have HA:=qz (fun W (h:Bx14 w S A0 A1 A2 A3 A4 n0 n1 n2 n3 n4 c0 c1 c2 c3 c4 sq W) => all19 (.agg #[.slice A0 n0 c0,.slice A1 n1 c1,.slice A2 n2 c2,.slice A3 n3 c3,.slice A4 n4 c4,.int .i64 sq]) S wC wT W h.st hf hw)
 have HEN:=qz (fun W (h:Bx14 w S A0 A1 A2 A3 A4 n0 n1 n2 n3 n4 c0 c1 c2 c3 c4 sq W) => ends19 (.agg #[.slice A0 n0 c0,.slice A1 n1 c1,.slice A2 n2 c2,.slice A3 n3 c3,.slice A4 n4 c4,.int .i64 sq]) S W h.st);obtain ⟨cr,hcr⟩:=exq (car19 S (th18 S wT));rw [hcr] at HA HNN HSM ⊢;obtain ⟨es,hes⟩:=exq (en19 S S.H.length)
 have hme:∀ t,t∈es->t < n2:=fun t ht => by
  rw [<- hes] at ht;have:=en19_lt ht;have:=hs.l2;omega
 have hle:es.length<=n2:=by rw [<- hes]; have:=en19_len S S.H.length; have:=hs.l2; omega
 rw [hes] at HEN ⊢;obtain ⟨m,hm⟩:=exq es.length;rw [hm] at hle ⊢;have HM:=qz hm;have HME:=qz hme;have HL2:=qz hs.l2;have hx0:By16 w S A0 A1 A2 A3 A4 n0 n1 n2 n3 n4 c0 c1 c2 c3 c4 sq _:=⟨Bx14.new hs,hs⟩
 obtain ⟨W1,hW1⟩:=exq (w.alloc (.cells #[.slice A0 n0 c0,.slice A1 n1 c1,.slice A2 n2 c2,.slice A3 n3 c3,.slice A4 n4 c4,.int .i64 sq] 28));have hz1:W1.heap.size = w.heap.size + 1:=by rw [<- hW1]; simp
 rw [hW1] at hx0;have hb2:=b1' W1 (.cells #[.slice none 0 0,.slice none 0 0] 46);have hk2:=Blk.new W1 46 #[.slice none 0 0,.slice none 0 0];obtain ⟨W2,hW2⟩:=exq (W1.alloc (.cells #[.slice none 0 0,.slice none 0 0] 46));rw [hW2,hz1] at hk2;rw [hW2] at hb2;have hx2:=hx0.step hb2;have HX2:=qz hx2;have HO2:=qz hk2;obtain ⟨x0,x1,x2,x3,x4,x5⟩:=ce6 hx2.b.x
 clear hs hf hw hsq hx0 hb2 hk2 hx2 hcr hes hm hme hsum;go_enter Tryz.func18,Tryz.ntmps18;go_wp2_with fail;refine (HA.out _ HX2.out.b).mono ?_;rintro e w1 ⟨g,rfl,hg,hr,hb⟩;rw [HL2.out] at hr ⊢;have HX3:=qz (HX2.out.step hb);have HO3:=qz (HO2.out.below hb HO2.out.lt);have HQ:=qz hr;obtain ⟨y0,y1,y2,y3,y4,y5⟩:=ce6 HX3.out.b.x
 clear hr hg hb HX2 HO2 HA x0 x1 x2 x3 x4 x5;go_wp2_with fail;refine (HEN.out _ HX3.out.b).mono ?_;rintro e w2 ⟨A,ca,rfl,hr,hb⟩;rw [HM.out];have HER:=qz hr;have HQ:=qz (HQ.out.step hb)
 have HTO:Hid (To19 w S A0 A1 A2 A3 A4 n0 n1 n2 n3 n4 c0 c1 c2 c3 c4 sq w2 g none 0 0 (es.take 0) w2):=qz ⟨HX3.out.step hb,HO3.out.below hb HO3.out.lt,Below.refl _ _,World.ownsRow_nil _ _ _ _,rfl,(HO3.out.below hb HO3.out.lt).lt⟩;clear hr hb HX3 HO3 HEN y0 y1 y2 y3 y4 y5;go_wp2_with fail
 go_loopw [4,12] (fun v i wr => ∃ (k:Nat) (B:Option Addr) (d:Nat),v = .slice B k d/\i = .int .i64 (k:Int)/\k<=m/\Hid (To19 w S A0 A1 A2 A3 A4 n0 n1 n2 n3 n4 c0 c1 c2 c3 c4 sq w2 g B k d (es.take k) wr)) (fun _ i _ => m - (intOf i).toNat)
 case atStart => exact ⟨0,none,0,rfl,rfl,by omega,HTO⟩
 case round =>
  clear HTO;obtain ⟨k,B,d,rfl,rfl,hk,HW⟩:=hrel;by_cases hkm:k < m
  ·
   have hkl:k < es.length:=by rw [HM.out]; exact hkm
   obtain ⟨ga,oa,hA,hab,q0⟩:=(HER.out.below HW.out.z (Nat.le_refl _)).at_ hkl;obtain ⟨f,hfj⟩:=exq (nth es k);have hfn:f < n2:=HME.out f (by rw [<- hfj,nth_in hkl]; exact List.getElem_mem _);have htk:=take15_next hkl;rw [hfj] at q0 htk;obtain ⟨B1,m1,d1,B2,m2,d2,hcq,e1,e2,_⟩:=cq19_at HQ.out hfn
   have z1:=(HW.out.z.cell (World.block_lt_of_cell? _ _ e1)).trans e1;have z2:=(HW.out.z.cell (World.block_lt_of_cell? _ _ e2)).trans e2;obtain ⟨Az,cz,W3,hrun,hto⟩:=HW.out.push hcq (by omega);rw [<- htk] at hto;have HRUN:=qz hrun;have HN:=qz hto;have i0:(0:Int)<=(k:Int):=by omega
   have i1:(k:Int) < (m:Int):=by omega
   have f0:(0:Int)<=(f:Int):=by omega
   have f1:(f:Int) < (n2:Int):=by omega
   clear hkl hab hfj htk hcq e1 e2 hrun hto;rw [hA];go_wp2_with (at_builtin; go_loud (refine wpList_append_14 _ rfl (.tmp 16) (.tmp 21) 40 rfl _ _ _ _ rfl rfl HRUN.out ?_));go_roundw
   case rel => exact ⟨k + 1,Az,cz,rfl,by go_num,by omega,HN⟩
   case measure => simp [intOf]; omega
  ·
   obtain rfl:m = k:=by omega
   have i1:¬ (m:Int) < (m:Int):=by omega
   have hrt:=rats19 HW.out.o HW.out.l HQ.out (fun t ht => HME.out t (List.mem_of_mem_take ht)) (fun _ _ => rfl) (fun j _ => HSM.out j) (fun hv => hv.below HW.out.z);rw [show es.take m = es from List.take_of_length_le (by have:=HM.out; omega)] at hrt;have hsu:=sum18_any B _ m d wr (by simp) hrt (by omega);rw [fold18_range es m HNN.out] at hsu
   have HSU:=qz hsu;have HX3:=qz HW.out.b.b;have HO3:=qz HW.out.v;clear hrt hsu HW;go_wp2_with fail;refine HSU.out.mono ?_;rintro e w4 ⟨A1,i1',t1,A2,i2,t2,rfl,hx,hy,hb4⟩;have HX4:=qz (HX3.out.step hb4);have HO4:=qz (HO3.out.below hb4 HO3.out.lt);have hl3:=HO3.out.lt;have HX:=qz hx;have HY:=qz hy;have r0:=HO4.out.cell 0;have r1:=HO4.out.cell 1
   have g0:=HO4.out.frozen 0;have g1:=HO4.out.frozen 1;clear hx hy hb4 HX3 HO3 HSU hW1 hW2
   try rw [hz1]
   clear hz1;go_wp2_with fail;have hp:=put_q HO4.out (.slice A1 i1' t1) (.slice A2 i2 t2)
   exact bodyPost_ret (v:=.agg #[.slice A1 i1' t1,.slice A2 i2 t2]) (by simp [results,Tryz.results18,go_sem,hp.cell 0,hp.cell 1]) rfl
    ⟨_,_,_,_,_,_,rfl,(HX.out.put_q hl3 _ _).more (by omega),(HY.out.put_q hl3 _ _).more (by omega),(HX4.out.b.setCell (by show w.heap.size<=w.heap.size + 1; omega) _).setCell (by show w.heap.size<=w.heap.size + 1; omega) _⟩
structure Tv18 (w:World) (S:Sv14) (A0 A1 A2 A3 A4:Option Addr) (n0 n1 n2 n3 n4 c0 c1 c2 c3 c4:Nat) (sq:Int) (xu:Bool) (c na:Nat) (xk xt:Int) (xo:Bool) (W:World):Prop where
 b:By16 w S A0 A1 A2 A3 A4 n0 n1 n2 n3 n4 c0 c1 c2 c3 c4 sq W
 t:Blk W (w.heap.size + 2) 55 #[.bool xu,.int .i64 (c:Int),.int .i64 (na:Int),.int .i64 xk,.int .i64 xt,.bool xo]
theorem Tv18.step {w:World} {S:Sv14} {A0 A1 A2 A3 A4:Option Addr} {n0 n1 n2 n3 n4 c0 c1 c2 c3 c4:Nat} {sq:Int} {xu:Bool} {c na:Nat} {xk xt:Int} {xo:Bool} {W W':World} (h:Tv18 w S A0 A1 A2 A3 A4 n0 n1 n2 n3 n4 c0 c1 c2 c3 c4 sq xu c na xk xt xo W) (hb:Below W.heap.size W W'):Tv18 w S A0 A1 A2 A3 A4 n0 n1 n2 n3 n4 c0 c1 c2 c3 c4 sq xu c na xk xt xo W':=⟨h.b.step hb,h.t.below hb h.t.lt⟩
theorem Tv18.put {w:World} {S:Sv14} {A0 A1 A2 A3 A4:Option Addr} {n0 n1 n2 n3 n4 c0 c1 c2 c3 c4:Nat} {sq:Int} {xu:Bool} {c na:Nat} {xk xt:Int} {xo:Bool} {W:World} (h:Tv18 w S A0 A1 A2 A3 A4 n0 n1 n2 n3 n4 c0 c1 c2 c3 c4 sq xu c na xk xt xo W) (u v:Value):Tv18 w S A0 A1 A2 A3 A4 n0 n1 n2 n3 n4 c0 c1 c2 c3 c4 sq xu c na xk xt xo (putQ18 W (w.heap.size + 1) u v) :=
 ⟨h.b.low (((Below.refl _ _).setCell (show w.heap.size + 1<=w.heap.size + 1 from Nat.le_refl _) _).setCell (show w.heap.size + 1<=w.heap.size + 1 from Nat.le_refl _) _),(h.t.far (by simp) _).far (by simp) _⟩
theorem rticket18_no (v:Value) (S:Sv14) (wC wT:Nat->Rat) (k:Nat) (w:World) (h:St14 w v S) (hf:Fine14 S) (hw:Wo18 S wC wT) (hk:k < S.T.length) (hn:cntb17 S k = false) :
  Calls Tryz.prog 50 #[v,.int .i64 (k:Int)] w (RetDB w (qr18 (wT k)).1 (qr18 (wT k)).2):=by
 obtain ⟨A0,A1,A2,A3,A4,n0,n1,n2,n3,n4,c0,c1,c2,c3,c4,sq,rfl,hs⟩:=h;have hx0:By16 w S A0 A1 A2 A3 A4 n0 n1 n2 n3 n4 c0 c1 c2 c3 c4 sq _:=⟨Bx14.new hs,hs⟩
 obtain ⟨W1,hW1⟩:=exq (w.alloc (.cells #[.slice A0 n0 c0,.slice A1 n1 c1,.slice A2 n2 c2,.slice A3 n3 c3,.slice A4 n4 c4,.int .i64 sq] 28));have hz1:W1.heap.size = w.heap.size + 1:=by rw [<- hW1]; simp
 rw [hW1] at hx0;have hb2:=b1' W1 (.cells #[.slice none 0 0,.slice none 0 0] 35);have hk2:=Blk.new W1 35 #[.slice none 0 0,.slice none 0 0];obtain ⟨W2,hW2⟩:=exq (W1.alloc (.cells #[.slice none 0 0,.slice none 0 0] 35));have hz2:W2.heap.size = w.heap.size + 2:=by rw [<- hW2]; simp; omega
 rw [hW2,hz1] at hk2;rw [hW2] at hb2;have hx2:=hx0.step hb2;have HX2:=qz hx2;have HO2:=qz hk2;obtain ⟨x0,x1,x2,x3,x4,x5⟩:=ce6 hx2.b.x;clear x1;have hl1:=hs.l1;have hm1:=hs.m1;have hT:=hf.2.2.2.2.1;obtain ⟨a,of,hAd,hab,hq⟩:=Lq.at_ len14T (by omega) hx2.b.s.r1 hk
 have t1:W2.cell? ⟨w.heap.size,1,none⟩ = some (.slice (some ⟨a,of,none⟩) n1 c1):=by rw [<- hAd]; exact hx2.b.x.cell 1
 have hcn:=cntb17_yes (S:=S) (k:=k);obtain ⟨x,hx⟩:=exq (gt14 S.T k);rw [hx] at hq;obtain ⟨xu,xc,xa,xk,xt,xo⟩:=x;have e0:W2.cell? ⟨a,of + k * 6,none⟩ = some (.bool xu):=hq 0 _ rfl;have e1:W2.cell? ⟨a,of + k * 6 + 1,none⟩ = some (.int .i64 xc):=hq 1 _ rfl;have e2:W2.cell? ⟨a,of + k * 6 + 2,none⟩ = some (.int .i64 xa):=hq 2 _ rfl
 have e3:W2.cell? ⟨a,of + k * 6 + 3,none⟩ = some (.int .i64 xk):=hq 3 _ rfl;have e4:W2.cell? ⟨a,of + k * 6 + 4,none⟩ = some (.int .i64 xt):=hq 4 _ rfl;have e5:W2.cell? ⟨a,of + k * 6 + 5,none⟩ = some (.bool xo):=hq 5 _ rfl;have i0:(0:Int)<=(k:Int):=by omega
 have i1:(k:Int) < (n1:Int):=by omega
 have hv:=Blk.new W2 55 #[.bool xu,.int .i64 xc,.int .i64 xa,.int .i64 xk,.int .i64 xt,.bool xo];have hbv:=b1' W2 (.cells #[.bool xu,.int .i64 xc,.int .i64 xa,.int .i64 xk,.int .i64 xt,.bool xo] 55);have hx3:=hx2.step hbv;have ho3:=hk2.below hbv hk2.lt;rw [hz2] at hv
 obtain ⟨X,hX⟩:=exq (W2.alloc (.cells #[.bool xu,.int .i64 xc,.int .i64 xa,.int .i64 xk,.int .i64 xt,.bool xo] 55));rw [hX] at hv hx3 ho3;have HX3:=qz hx3;have HO3:=qz ho3;have HV3:=qz hv;obtain ⟨y0,y1,y2,y3,y4,y5⟩:=ce6 hx3.b.x
 have HCU:=qz (fun W (h:Bx14 w S A0 A1 A2 A3 A4 n0 n1 n2 n3 n4 c0 c1 c2 c3 c4 sq W) => rcounts17 (.agg #[.slice A0 n0 c0,.slice A1 n1 c1,.slice A2 n2 c2,.slice A3 n3 c3,.slice A4 n4 c4,.int .i64 sq]) S hf k hk W h.st);rw [hn] at HCU;have HE:Hid (wT k = 0):=qz (hw.none (fun g => by rw [cntb17_yes.2 g] at hn; cases hn))
 clear hs hx0 hb2 hk2 hx2 hf hw hT hk hn hq hx hab hAd hcn hx3 ho3 hv hbv hl1;go_enter Tryz.func50,Tryz.ntmps50;go_upto_region 2 with (fail)
 clear t1 e0 e1 e2 e3 e4 e5 hX hW1 hW2 x0 x2 x3 x4 x5
 try rw [hz1]
 go_wp2_with fail;refine (HCU.out _ HX3.out.b).mono ?_;rintro e w3 ⟨rfl,hb3⟩;have HX5:=qz (HX3.out.step hb3);have HO5:=qz (HO3.out.below hb3 HO3.out.lt);clear hb3 HCU HX3 HO3 HV3 y0 y1 y2 y3 y4 y5;go_wp2_with fail;refine (int18_0 _).mono ?_;rintro e w4 ⟨D1,i1',t1,D2,i2,t2,rfl,hq1,hq2,hb4⟩;have HX4:=qz (HX5.out.step hb4)
 have HO4:=qz (HO5.out.below hb4 HO5.out.lt);have HN:Hid (Qn18 w4 w.heap.size (wT k) D1 i1' t1 D2 i2 t2):=qz ((qn18_of hq1 hq2 HX5.out.b.b.size).congr HE.out.symm);have r0:=HO4.out.cell 0;have r1:=HO4.out.cell 1;have f0:=HO4.out.frozen 0;have f1:=HO4.out.frozen 1;clear hq1 hq2 hb4 HX5 HO5 hz1 hz2;go_wp2_with fail
 have hp:=put_Q HO4.out (.slice D1 i1' t1) (.slice D2 i2 t2);have hfin:=HN.out.put HO4.out (.slice D1 i1' t1) (.slice D2 i2 t2)
 exact bodyPost_ret (v:=.agg #[.slice D1 i1' t1,.slice D2 i2 t2]) (by simp [results,Tryz.results50,go_sem,hp.cell 0,hp.cell 1]) rfl
  ⟨_,_,_,_,_,_,rfl,hfin.1,hfin.2,(HX4.out.b.b.setCell (by show w.heap.size<=w.heap.size + 1; omega) _).setCell (by show w.heap.size<=w.heap.size + 1; omega) _⟩
theorem rticket18_yes (v:Value) (S:Sv14) (wC wT:Nat->Rat) (k:Nat) (w:World) (h:St14 w v S) (hf:Fine14 S) (hw:Wo18 S wC wT) (hk:k < S.T.length) (hn:cntb17 S k = true)
  (hC:(gt14 S.T k).c≠0->∀ W,St14 W v S->Calls Tryz.prog 68 #[v,.int .i64 (gt14 S.T k).c] W (RetDB W (qr18 (wC (gt14 S.T k).c.toNat)).1 (qr18 (wC (gt14 S.T k).c.toNat)).2)) :
  Calls Tryz.prog 50 #[v,.int .i64 (k:Int)] w (RetDB w (qr18 (wT k)).1 (qr18 (wT k)).2):=by
 obtain ⟨A0,A1,A2,A3,A4,n0,n1,n2,n3,n4,c0,c1,c2,c3,c4,sq,rfl,hs⟩:=h;have hx0:By16 w S A0 A1 A2 A3 A4 n0 n1 n2 n3 n4 c0 c1 c2 c3 c4 sq _:=⟨Bx14.new hs,hs⟩
 obtain ⟨W1,hW1⟩:=exq (w.alloc (.cells #[.slice A0 n0 c0,.slice A1 n1 c1,.slice A2 n2 c2,.slice A3 n3 c3,.slice A4 n4 c4,.int .i64 sq] 28));have hz1:W1.heap.size = w.heap.size + 1:=by rw [<- hW1]; simp
 rw [hW1] at hx0;have hb2:=b1' W1 (.cells #[.slice none 0 0,.slice none 0 0] 35);have hk2:=Blk.new W1 35 #[.slice none 0 0,.slice none 0 0];obtain ⟨W2,hW2⟩:=exq (W1.alloc (.cells #[.slice none 0 0,.slice none 0 0] 35));have hz2:W2.heap.size = w.heap.size + 2:=by rw [<- hW2]; simp; omega
 rw [hW2,hz1] at hk2;rw [hW2] at hb2;have hx2:=hx0.step hb2;have HX2:=qz hx2;have HO2:=qz hk2;obtain ⟨x0,x1,x2,x3,x4,x5⟩:=ce6 hx2.b.x;clear x1;have hl1:=hs.l1;have hm1:=hs.m1;have hT:=hf.2.2.2.2.1;obtain ⟨a,of,hAd,hab,hq⟩:=Lq.at_ len14T (by omega) hx2.b.s.r1 hk
 have t1:W2.cell? ⟨w.heap.size,1,none⟩ = some (.slice (some ⟨a,of,none⟩) n1 c1):=by rw [<- hAd]; exact hx2.b.x.cell 1
 have hcn:=cntb17_yes (S:=S) (k:=k);obtain ⟨x,hx⟩:=exq (gt14 S.T k);have hlt:=(hcn.1 hn).lt;have hpt:=hT k hlt.1 hlt.2;have huc:=us15_lt hpt.1;have htk:=fun (c na:Nat) => hw.tk hT (j:=k) (c:=c) (na:=na) hn
 have hwt:=hw.t k;rw [hx] at hq hpt huc htk hwt hC;obtain ⟨xu,xc,xa,xk,xt,xo⟩:=x;dsimp only at hpt huc htk hwt hC;have hxc:0<=xc:=huc.1;have hxa1:1<=xa:=hpt.2.1;have hxa2:xa<=1048576:=hpt.2.2.1;obtain ⟨c,rfl⟩:∃ n:Nat,xc = (n:Int):=⟨xc.toNat,by omega⟩
 obtain ⟨na,rfl⟩:∃ n:Nat,xa = (n:Int):=⟨xa.toNat,by omega⟩
 have hna:na<=1048576:=by omega
 obtain ⟨hp,htk⟩:=htk c na rfl rfl;have hA:=amn17_int hT (c:Int);have hbd:=amt17_bound hT (c:Int) S.T.length;have h96:S.T.length<=96:=hf.2.2.1.2.1.1;obtain ⟨z,hz⟩:=exq (amn17 S (c:Int));rw [hz] at hA hp htk;have hz30:z < 1073741824:=by omega
 have HRA:=qz (fun W (h:Bx14 w S A0 A1 A2 A3 A4 n0 n1 n2 n3 n4 c0 c1 c2 c3 c4 sq W) => ramount17 (.agg #[.slice A0 n0 c0,.slice A1 n1 c1,.slice A2 n2 c2,.slice A3 n3 c3,.slice A4 n4 c4,.int .i64 sq]) S hf (c:Int) W h.st);rw [<- hA] at HRA;obtain ⟨hsc,hst,_⟩:=hw.sq hf;have e0:W2.cell? ⟨a,of + k * 6,none⟩ = some (.bool xu):=hq 0 _ rfl
 have e1:W2.cell? ⟨a,of + k * 6 + 1,none⟩ = some (.int .i64 (c:Int)):=hq 1 _ rfl;have e2:W2.cell? ⟨a,of + k * 6 + 2,none⟩ = some (.int .i64 (na:Int)):=hq 2 _ rfl;have e3:W2.cell? ⟨a,of + k * 6 + 3,none⟩ = some (.int .i64 xk):=hq 3 _ rfl;have e4:W2.cell? ⟨a,of + k * 6 + 4,none⟩ = some (.int .i64 xt):=hq 4 _ rfl
 have e5:W2.cell? ⟨a,of + k * 6 + 5,none⟩ = some (.bool xo):=hq 5 _ rfl;have i0:(0:Int)<=(k:Int):=by omega
 have i1:(k:Int) < (n1:Int):=by omega
 have hv:=Blk.new W2 55 #[.bool xu,.int .i64 (c:Int),.int .i64 (na:Int),.int .i64 xk,.int .i64 xt,.bool xo];have hbv:=b1' W2 (.cells #[.bool xu,.int .i64 (c:Int),.int .i64 (na:Int),.int .i64 xk,.int .i64 xt,.bool xo] 55);have hx3:=hx2.step hbv;have ho3:=hk2.below hbv hk2.lt;rw [hz2] at hv
 obtain ⟨X,hX⟩:=exq (W2.alloc (.cells #[.bool xu,.int .i64 (c:Int),.int .i64 (na:Int),.int .i64 xk,.int .i64 xt,.bool xo] 55));rw [hX] at hv hx3 ho3;have HX3:Hid (Tv18 w S A0 A1 A2 A3 A4 n0 n1 n2 n3 n4 c0 c1 c2 c3 c4 sq xu c na xk xt xo X):=qz ⟨hx3,hv⟩;have HO3:=qz ho3;obtain ⟨y0,y1,y2,y3,y4,y5⟩:=ce6 hx3.b.x
 have HCU:=qz (fun W (h:Bx14 w S A0 A1 A2 A3 A4 n0 n1 n2 n3 n4 c0 c1 c2 c3 c4 sq W) => rcounts17 (.agg #[.slice A0 n0 c0,.slice A1 n1 c1,.slice A2 n2 c2,.slice A3 n3 c3,.slice A4 n4 c4,.int .i64 sq]) S hf k hk W h.st);rw [hn] at HCU;have hwa:IntKind.u64.wrap (na:Int) = (na:Int):=by rw [IntKind.wrap_u64]; omega
 have hwz:IntKind.u64.wrap (z:Int) = (z:Int):=by rw [IntKind.wrap_u64]; omega
 by_cases h0:c = 0
 ·
  subst h0
  have HE:Hid (wT k = (na:Rat)):=qz (by
   rw [hwt,if_pos hn]
   exact (if_pos (show ((0:Nat):Int) = 0 from rfl)).trans rfl)
  rw [show ((0:Nat):Int) = 0 from rfl] at hX e1;clear hs hx0 hb2 hk2 hx2 hf hw hT hk hn hq hx hab hAd hcn hx3 ho3 hv hbv hl1 hlt hpt huc htk hwt hC hxc hxa1 hxa2 hp hA hbd h96 hz hz30 HRA hsc hst;have HIN:=qz (fun W => int18_q na W (by omega));go_enter Tryz.func50,Tryz.ntmps50;go_upto_region 2 with (fail)
  clear t1 e0 e1 e2 e3 e4 e5 hX hW1 hW2 x0 x2 x3 x4 x5
  try rw [hz1]
  go_wp2_with fail;refine (HCU.out _ HX3.out.b.b).mono ?_;rintro e w3 ⟨rfl,hb3⟩;have HX5:=qz (HX3.out.step hb3);have HO5:=qz (HO3.out.below hb3 HO3.out.lt);have u1:w3.cell? ⟨w.heap.size + 2,1,none⟩ = some (.int .i64 0):=HX5.out.t.cell 1;have u2:=HX5.out.t.cell 2;clear hb3 HCU HX3 HO3 y0 y1 y2 y3 y4 y5;go_wp2_with fail;refine (HIN.out _).mono ?_
  rintro e w4 ⟨D1,i1',t1,D2,i2,t2,rfl,hq1,hq2,hb4⟩;have HX4:=qz (HX5.out.step hb4);have HO4:=qz (HO5.out.below hb4 HO5.out.lt);have HN:Hid (Qn18 w4 w.heap.size (wT k) D1 i1' t1 D2 i2 t2):=qz ((qn18_of hq1 hq2 HX5.out.b.b.b.size).congr HE.out.symm);have r0:=HO4.out.cell 0;have r1:=HO4.out.cell 1;have f0:=HO4.out.frozen 0;have f1:=HO4.out.frozen 1
  clear hq1 hq2 hb4 HX5 HO5 hz1 hz2 u1 u2;go_wp2_with fail;have hp:=put_Q HO4.out (.slice D1 i1' t1) (.slice D2 i2 t2);have hfin:=HN.out.put HO4.out (.slice D1 i1' t1) (.slice D2 i2 t2)
  exact bodyPost_ret (v:=.agg #[.slice D1 i1' t1,.slice D2 i2 t2]) (by simp [results,Tryz.results50,go_sem,hp.cell 0,hp.cell 1]) rfl
   ⟨_,_,_,_,_,_,rfl,hfin.1,hfin.2,(HX4.out.b.b.b.setCell (by show w.heap.size<=w.heap.size + 1; omega) _).setCell (by show w.heap.size<=w.heap.size + 1; omega) _⟩

 ·
  have hc0:((c:Int) == 0) = false:=by simp; omega
  have hdp:0<=(na:Rat) / (z:Rat):=rat18_div _ _ (by exact_mod_cast Nat.zero_le _) (by exact_mod_cast hp);have hqe:=qr18_div (n:=na) (d:=z) hp
  have HS1:Hid (Sq18 ((na:Rat) / (z:Rat))):=qz ⟨hdp,by rw [<- hqe]; exact Nat.lt_of_le_of_lt (Nat.div_le_self _ _) (Nat.lt_trans (by omega:na < 65536 ^ 2) (Nat.pow_lt_pow_right (by omega) (by omega))),by rw [<- hqe]; exact Nat.lt_of_le_of_lt (Nat.div_le_self _ _) (Nat.lt_trans (by omega:z < 65536 ^ 2) (Nat.pow_lt_pow_right (by omega) (by omega)))⟩
  have HS2:=qz (hsc c);have HOF:=qz (fun W => of18_q na z W (by omega) (by omega) hp);have HCO:=qz (fun W (h:Bx14 w S A0 A1 A2 A3 A4 n0 n1 n2 n3 n4 c0 c1 c2 c3 c4 sq W) => hC (by omega) W h.st);rw [Int.toNat_natCast] at HCO;obtain ⟨y,hy⟩:∃ y:Rat,(na:Rat) / (z:Rat) = y:=⟨_,rfl⟩
  rw [hy] at HS1 HOF htk;have HE:=qz htk;have HO:Hid (Blk X.drew (w.heap.size + 1) 35 #[.slice none 0 0,.slice none 0 0]):=qz (ho3.below (Below.refl X.heap.size X).drew ho3.lt);clear hs hx0 hb2 hk2 hx2 hf hw hT hk hn hq hx hab hAd hcn hx3 ho3 hv hbv hl1 hlt hpt huc htk hwt hC hxc hxa1 hxa2 hp hA hbd h96 hz hz30 hsc hst hdp hqe hy h0
  go_enter Tryz.func50,Tryz.ntmps50;go_upto_region 2 with (fail)
  clear t1 e0 e1 e2 e3 e4 e5 hX hW1 hW2 x0 x2 x3 x4 x5
  try rw [hz1]
  go_wp2_with fail;refine (HCU.out _ HX3.out.b.b).mono ?_;rintro e w3 ⟨rfl,hb3⟩;have HX5:=qz (HX3.out.step hb3);have HO5:=qz (HO3.out.below hb3 HO3.out.lt);have u1:=HX5.out.t.cell 1;have HO:Hid (Blk w3.drew (w.heap.size + 1) 35 #[.slice none 0 0,.slice none 0 0]):=qz (HO5.out.below (Below.refl w3.heap.size w3).drew HO5.out.lt)
  clear hb3 HCU HX3 HO3 y0 y1 y2 y3 y4 y5 HO5;go_upto_region 6 with (fail)
  clear u1 hz1 hz2;have HXN:Hid (Tv18 w S A0 A1 A2 A3 A4 n0 n1 n2 n3 n4 c0 c1 c2 c3 c4 sq xu c na xk xt xo w3.drew):=qz (HX5.out.step (Below.refl _ _).drew);clear HX5;obtain ⟨wn,hwn⟩:=exq w3.drew;rw [hwn] at HXN HO;go_wp2_with fail
  refine wp_region_held_drew (S:=Tv18 w S A0 A1 A2 A3 A4 n0 n1 n2 n3 n4 c0 c1 c2 c3 c4 sq xu c na xk xt xo) (by kernel_rfl) (by rw [hwn]; exact HXN.out) (fun hHeld => ?_);rw [hwn] at hHeld ⊢;clear hwn;have HBS:=HXN;refine tkq 0 ?_;refine tk 1 (v:=?_) (fun W hS => ?_) ?_;rotate_left
  ·
   try dsimp only at hS
   have z0:=hS.t.cell 2;go_simp
   try with_reducible rfl
  try simp only [Act.put,pt1,pt2,pt3]
  refine tkq 2 ?_;refine tk 3 (v:=?_) (fun W hS => ?_) ?_;rotate_left
  ·
   try dsimp only at hS
   obtain ⟨z0,z1,z2,z3,z4,z5⟩:=ce6 hS.b.b.x;go_simp
   try with_reducible rfl
  try simp only [Act.put,pt1,pt2,pt3]
  refine tkq 4 ?_;refine tk 5 (v:=?_) (fun W hS => ?_) ?_;rotate_left
  ·
   try dsimp only at hS
   have z0:=hS.t.cell 1;go_simp
   try with_reducible rfl
  try simp only [Act.put,pt1,pt2,pt3]
  refine tk 9 (v:=?_) (fun W hS => ?_) ?_;rotate_left
  ·
   try dsimp only at hS
   obtain ⟨z0,z1,z2,z3,z4,z5⟩:=ce6 hS.b.b.x;go_simp
   try with_reducible rfl
  try simp only [Act.put,pt1,pt2,pt3]
  refine tkq 10 ?_;refine tk 11 (v:=?_) (fun W hS => ?_) ?_;rotate_left
  ·
   try dsimp only at hS
   have z0:=hS.t.cell 1;go_simp
   try with_reducible rfl
  try simp only [Act.put,pt1,pt2,pt3]
  refine rdy 6 (fun K hK => ?_);have HBS0:=HBS;go_simp;refine (HRA.out _ HBS0.out.b.b).mono ?_;rintro e wn ⟨rfl,hb⟩;have HBS:=qz (HBS0.out.step hb);have HO:=qz (HO.out.below hb HO.out.lt);clear hb HBS0;refine koq hK HBS.out (fun hHeld=>?_);clear hK K;refine tkq 7 ?_;refine rdy 8 (fun K hK => ?_);have HBS0:=HBS;go_simp;refine (HOF.out _).mono ?_
  rintro e wn ⟨D1,j1,t1,D2,j2,t2,rfl,hx,hy,hb⟩;have HBS:=qz (HBS0.out.step hb);have HO:=qz (HO.out.below hb HO.out.lt);have HN:Hid (Qn18 wn _ y D1 j1 t1 D2 j2 t2):=qz ⟨hx,hy⟩;clear hb HBS0 hx hy;refine koq hK HBS.out (fun hHeld=>?_);clear hK K;refine rdy 12 (fun K hK => ?_);have HBS0:=HBS;go_simp;refine (HCO.out _ HBS0.out.b.b).mono ?_
  rintro e wn ⟨E1,k1,o1,E2,k2,o2,rfl,hx,hy,hb⟩;have HBS:=qz (HBS0.out.step hb);have HO:=qz (HO.out.below hb HO.out.lt);have HN:=qz (HN.out.below hb);have HM:Hid (Qn18 wn _ (wC c) E1 k1 o1 E2 k2 o2):=qz ⟨hx,hy⟩;clear hb HBS0 hx hy;refine koq hK HBS.out (fun hHeld=>?_);clear hK K;refine rdy 13 (fun K hK => ?_);have HBS0:=HBS;go_simp
  refine (mul18_q wn HN.out HM.out HS1.out HS2.out).mono ?_;rintro e wn ⟨F1,l1,s1,F2,l2,s2,rfl,hx,hy,hb⟩;have HBS:=qz (HBS0.out.step hb);have HO:=qz (HO.out.below hb HO.out.lt);have hls:=HBS0.out.b.b.b.size;have HR:Hid (Qn18 wn w.heap.size (wT k) F1 l1 s1 F2 l2 s2):=qz ((qn18_of hx hy hls).congr HE.out.symm);clear hls;clear hb HBS0 hx hy HN HM
  refine koq hK HBS.out (fun hHeld=>?_);clear hK K;refine rdy 14 (fun K hK => ?_);have x0:=HO.out.cell 0;have x1:=HO.out.cell 1;have xf0:=HO.out.frozen 0;have xf1:=HO.out.frozen 1;have HBS0:=HBS;go_simp;obtain ⟨wm,hwm⟩:=exq ((wn.setCell ⟨w.heap.size + 1,0,none⟩ (.slice F1 l1 s1)).setCell ⟨w.heap.size + 1,1,none⟩ (.slice F2 l2 s2))
  have HBS:=qz (show Tv18 w S A0 A1 A2 A3 A4 n0 n1 n2 n3 n4 c0 c1 c2 c3 c4 sq xu c na xk xt xo wm by rw [<- hwm]; exact HBS0.out.put _ _);have HR:=qz (show Qn18 wm w.heap.size _ F1 l1 s1 F2 l2 s2 by rw [<- hwm]; exact HR.out.put HO.out _ _);have HO:=qz (show Blk wm (w.heap.size + 1) 35 #[.slice F1 l1 s1,.slice F2 l2 s2] by rw [<- hwm]; exact put_Q HO.out _ _)
  rw [hwm];clear hwm x0 x1 xf0 xf1 HBS0;obtain ⟨wn,hwn⟩:∃ W,W = wm:=⟨_,rfl⟩
  subst hwn;refine koq hK HBS.out (fun hHeld=>?_);clear hK K;refine wpAnyH_done (by kernel_rfl) ?_ _;clear hHeld;have x0:=HO.out.cell 0;have x1:=HO.out.cell 1;go_wp2_with fail;exact bodyPost_ret (v:=.agg #[.slice F1 l1 s1,.slice F2 l2 s2]) (by simp [results,Tryz.results50,go_sem,x0,x1]) rfl ⟨_,_,_,_,_,_,rfl,HR.out.1,HR.out.2,HBS.out.b.b.b⟩
theorem rticket18_of (v:Value) (S:Sv14) (wC wT:Nat->Rat) (k:Nat) (w:World) (h:St14 w v S) (hf:Fine14 S) (hw:Wo18 S wC wT) (hk:k < S.T.length)
  (hC:cntb17 S k = true->(gt14 S.T k).c≠0->∀ W,St14 W v S->Calls Tryz.prog 68 #[v,.int .i64 (gt14 S.T k).c] W (RetDB W (qr18 (wC (gt14 S.T k).c.toNat)).1 (qr18 (wC (gt14 S.T k).c.toNat)).2)) :
  Calls Tryz.prog 50 #[v,.int .i64 (k:Int)] w (RetDB w (qr18 (wT k)).1 (qr18 (wT k)).2):=by
 cases hn:cntb17 S k with
 | false => exact rticket18_no v S wC wT k w h hf hw hk hn
 | true => exact rticket18_yes v S wC wT k w h hf hw hk hn (hC hn)
theorem rcoin18_of (v:Value) (S:Sv14) (wC wT:Nat->Rat) (c:Nat) (w:World) (h:St14 w v S) (hf:Fine14 S) (hw:Wo18 S wC wT)
  (hT:∀ k,k < S.T.length->(gt14 S.T k).u = true->(gt14 S.T k).k = 2->(gt14 S.T k).t = (c:Int)->∀ W,St14 W v S->Calls Tryz.prog 50 #[v,.int .i64 (k:Int)] W (RetDB W (qr18 (wT k)).1 (qr18 (wT k)).2)) :
  Calls Tryz.prog 68 #[v,.int .i64 (c:Int)] w (RetDB w (qr18 (wC c)).1 (qr18 (wC c)).2):=by
 by_cases h0:c = 0
 ·
  subst h0;exact rcoin18_base v S wC wT w h hf hw
 · exact rcoin18_more v S wC wT c w h hf hw h0 hT
theorem rcoin18 (v:Value) (S:Sv14) (wC wT:Nat->Rat) (hf:Fine14 S) (hw:Wo18 S wC wT) (c:Nat) (w:World) (h:St14 w v S) :
  Calls Tryz.prog 68 #[v,.int .i64 (c:Int)] w (RetDB w (qr18 (wC c)).1 (qr18 (wC c)).2):=by
 have hT:=hf.2.2.2.2.1;obtain ⟨os,hd⟩:=done13_ex (Ca15 S) S.C.length;have hl:os.length = S.C.length:=Done13.full (in13_cut _ _) hd (free15_ring.1 hf.2.2.2.2.2.2.2.2.1)
 have key:∀ (d:Nat),d < (ord15 S os).length->∀ w,St14 w v S->Calls Tryz.prog 68 #[v,.int .i64 ((nth (ord15 S os) d:Nat):Int)] w (RetDB w (qr18 (wC (nth (ord15 S os) d))).1 (qr18 (wC (nth (ord15 S os) d))).2):=by
  intro d
  induction d using Nat.strongRecOn with
  | ind d ih =>
   intro hdl w h;refine rcoin18_of v S wC wT _ w h hf hw (fun k hk hu hk2 ht W hW => rticket18_of v S wC wT k W hW hf hw hk (fun hn _ W2 hW2 => ?_));have huc:=(hT k hk hu).1;have hin:=us15_lt huc;have hux:=ord15_used hdl;have hinx:=us15_lt hux;have hcf:(((gt14 S.T k).c.toNat:Nat):Int) = (gt14 S.T k).c:=by omega
   have hm:(gt14 S.T k).c.toNat∈(ord15 S os).take d:=told15_pre hd.1 (fun x => us14 usC S.C (x:Int)) d hdl _ (ca15_mem.2 ⟨⟨k,⟨hk,hu,hk2,ht⟩,hcf.symm⟩,by omega,by
    show nth (ord15 S os) d < S.C.length
    omega⟩) (by rw [hcf]; exact huc)
   obtain ⟨q,hq,hqe⟩:=List.mem_iff_getElem.1 hm;rw [List.length_take] at hq;rw [List.getElem_take,<- nth_in] at hqe;have h3:=ih q (by omega) (by omega) W2 hW2;rw [hqe,hcf] at h3;exact h3
 cases hu:us14 usC S.C (c:Int) with
 | true =>
  have hm:c∈ord15 S os:=(ord17_in hd.1 hl).2 hu;obtain ⟨q,hq,hqe⟩:=List.mem_iff_getElem.1 hm;rw [<- nth_in hq] at hqe;have h3:=key q hq w h;rw [hqe] at h3
  exact h3
 | false =>
  refine rcoin18_of v S wC wT c w h hf hw (fun k hk hu2 hk2 ht W hW => ?_);rcases (hT k hk hu2).2.2.2 with h4 | h4 | h4
  · rw [hk2] at h4; exact absurd h4.1 (by decide)
  · rw [hk2] at h4; exact absurd h4.1 (by decide)
  · rw [ht,hu] at h4; exact absurd h4.2.2 (by decide)
theorem rticket18 (v:Value) (S:Sv14) (wC wT:Nat->Rat) (hf:Fine14 S) (hw:Wo18 S wC wT) (k:Nat) (hk:k < S.T.length) (w:World) (h:St14 w v S) :
  Calls Tryz.prog 50 #[v,.int .i64 (k:Int)] w (RetDB w (qr18 (wT k)).1 (qr18 (wT k)).2) :=
 rticket18_of v S wC wT k w h hf hw hk (fun hn _ W hW => by
  have hl:=(cntb17_yes.1 hn).lt;have hin:=us15_lt (hf.2.2.2.2.1 k hl.1 hl.2).1;have h3:=rcoin18 v S wC wT hf hw (gt14 S.T k).c.toNat W hW;rw [show (((gt14 S.T k).c.toNat:Nat):Int) = (gt14 S.T k).c by omega] at h3
  exact h3)
theorem rthread18 (v:Value) (S:Sv14) (wC wT:Nat->Rat) (hf:Fine14 S) (hw:Wo18 S wC wT) (i:Nat) (w:World) (h:St14 w v S) :
  Calls Tryz.prog 30 #[v,.int .i64 (i:Int)] w (RetDB w (qr18 (th18 S wT i)).1 (qr18 (th18 S wT i)).2) :=
 rthread18_of v S wC wT i w h hf hw (fun k hk _ _ _ W hW => rticket18 v S wC wT hf hw k hk W hW)
theorem rbehind16 (v:Value) (S:Sv14) (i:Int) (near:Bool) (w:World) (h:St14 w v S) (hf:Fine14 S) :
  Calls Tryz.prog 31 #[v,.int .i64 i,.bool near] w (RetR15 w (bh16 S i near)):=by
 obtain ⟨A0,A1,A2,A3,A4,n0,n1,n2,n3,n4,c0,c1,c2,c3,c4,sq,rfl,hs⟩:=h;have HP:Hid (RetR15 w (bh16 S i near) = fun e w' => ∃ A c,e = .returned (.slice A (bh16 S i near).length c)/\Rd w' w'.heap.size A (bh16 S i near)/\Below w.heap.size w w'):=qz rfl
 have HX0:Hid (Ti15 w (w.heap.size + 1) S A0 A1 A2 A3 A4 n0 n1 n2 n3 n4 c0 c1 c2 c3 c4 sq none 0 0 (all11 (bhb16 S i near) 0) (w.alloc (.cells #[.slice A0 n0 c0,.slice A1 n1 c1,.slice A2 n2 c2,.slice A3 n3 c3,.slice A4 n4 c4,.int .i64 sq] 28))):=qz (Ti15.start hs (Bx14.new hs) (by omega) (by simp));obtain ⟨b,hb⟩:=exq (us14 usH S.H i);have HB:=qz hb
 have HU:=qz (fun W (h:Bx14 w S A0 A1 A2 A3 A4 n0 n1 n2 n3 n4 c0 c1 c2 c3 c4 sq W) => rThread14 (.agg #[.slice A0 n0 c0,.slice A1 n1 c1,.slice A2 n2 c2,.slice A3 n3 c3,.slice A4 n4 c4,.int .i64 sq]) S i b W h.st hb)
 have HT:=qz (fun W (h:Bx14 w S A0 A1 A2 A3 A4 n0 n1 n2 n3 n4 c0 c1 c2 c3 c4 sq W) => rthreadArrows14 (.agg #[.slice A0 n0 c0,.slice A1 n1 c1,.slice A2 n2 c2,.slice A3 n3 c3,.slice A4 n4 c4,.int .i64 sq]) S W h.st (fine16_lock hf))
 have HN:=qz (fun W (h:Bx14 w S A0 A1 A2 A3 A4 n0 n1 n2 n3 n4 c0 c1 c2 c3 c4 sq W) k => rnext16 (.agg #[.slice A0 n0 c0,.slice A1 n1 c1,.slice A2 n2 c2,.slice A3 n3 c3,.slice A4 n4 c4,.int .i64 sq]) S k W h.st hf);have HL2:=qz hs.l2;have hnb:=hs.m2;have HLN:Hid ((tArr14 S S.H.length).length<=1000000):=qz (by have:=tArr14_len S S.H.length; have:=hs.l2; omega)
 clear hs hf hb;go_enter Tryz.func31,Tryz.ntmps31;go_wp2_with fail;go_loopw [7,8] (fun v iv wr => ∃ (k:Nat) (A:Option Addr) (m c:Nat),v = .slice A m c/\iv = .int .i64 (k:Int)/\k<=n2/\Hid (Ti15 w (w.heap.size + 1) S A0 A1 A2 A3 A4 n0 n1 n2 n3 n4 c0 c1 c2 c3 c4 sq A m c (all11 (bhb16 S i near) k) wr)) (fun _ iv _ => n2 - (intOf iv).toNat)
 case atStart => exact ⟨0,none,0,0,rfl,rfl,by omega,HX0⟩
 case round =>
  clear HX0;obtain ⟨k,A,m,c,rfl,rfl,hk,HW⟩:=hrel;obtain ⟨p0,p1,p2,p3,p4,p5⟩:=ce6 HW.out.b.x;by_cases hkn:k < n2
  ·
   have i0:(0:Int)<=(k:Int):=by omega
   have i1:(k:Int) < (n2:Int):=by omega
   have hmk:m<=k:=by rw [<- HW.out.l]; exact all11_len _ k
   cases b with
   | false =>
    have HE:Hid (bh16 S i near = all11 (bhb16 S i near) k):=qz (by
     have z:∀ n,all11 (bhb16 S i near) n = []:=fun n => List.eq_nil_iff_forall_not_mem.2 fun x hx => by
      unfold all11 at hx;rw [List.mem_filter,bhb16,HB.out] at hx;cases hx.2
     unfold bh16
     rw [z,z])
    have HL:=qz HW.out.l;go_wp2_with fail;refine (HU.out _ HW.out.b).mono ?_;rintro e u1 ⟨rfl,hb1⟩;have HW1:=qz (HW.out.step hb1);clear hb1 HU;go_wp2_with fail;go_ret;rw [HP.out,HE.out]
    exact ⟨A,c,by rw [HL.out]; rfl,HW1.out.rd,HW1.out.b.b⟩
   | true =>
    have hin:=ush16_lt HB.out;obtain ⟨q,hq⟩:∃ q:Nat,i = (q:Int):=⟨i.toNat,by omega⟩
    subst hq;have hqn:q < n2:=by have:=HL2.out; omega
    have j0:(0:Int)<=(q:Int):=by omega
    have j1:(q:Int) < (n2:Int):=by omega
    have HNX:Hid (all11 (bhb16 S (q:Int) near) (k + 1) = all11 (bhb16 S (q:Int) near) k ++ if bhb16 S (q:Int) near k then [k] else []):=qz (all11_next _ k)
    have HBQ:Hid (bhb16 S (q:Int) near k = if near then (nxt16 S (k:Int) == (q:Int)) else wayb (Ta16 S) k q):=qz (by
     rw [bhb16,HB.out,Bool.true_and,Int.toNat_natCast]
     rfl)
    clear hin;go_wp2_with fail;refine (HU.out _ HW.out.b).mono ?_;rintro e u1 ⟨rfl,hb1⟩;have HQ:=qz (HW.out.step hb1);clear hb1 HW p0 p1 p2 p3 p4 p5;have HXN:Hid (Ti15 w (w.heap.size + 1) S A0 A1 A2 A3 A4 n0 n1 n2 n3 n4 c0 c1 c2 c3 c4 sq A m c (all11 (bhb16 S ((q:Nat):Int) near) k) u1.drew):=qz (HQ.out.step (Below.refl _ _).drew);clear HQ
    obtain ⟨wn,hwn⟩:=exq u1.drew;rw [hwn] at HXN;go_wp2_with fail;refine wp_region_held_drew (S:=Ti15 w (w.heap.size + 1) S A0 A1 A2 A3 A4 n0 n1 n2 n3 n4 c0 c1 c2 c3 c4 sq A m c (all11 (bhb16 S ((q:Nat):Int) near) k)) (by kernel_rfl) (by rw [hwn]; exact HXN.out) (fun hHeld => ?_);rw [hwn] at hHeld ⊢;clear hwn;have HBS:=HXN
    refine tk 0 (v:=?_) (fun W hS => ?_) ?_;rotate_left
    ·
     try dsimp only at hS
     obtain ⟨z0,z1,z2,z3,z4,z5⟩:=ce6 hS.b.x;go_simp
     try with_reducible rfl
    try simp only [Act.put,pt1,pt2,pt3]
    refine tk 1 (v:=?_) (fun W hS => ?_) ?_;rotate_left
    ·
     try dsimp only at hS
     obtain ⟨z0,z1,z2,z3,z4,z5⟩:=ce6 hS.b.x;go_simp
     try with_reducible rfl
    try simp only [Act.put,pt1,pt2,pt3]
    refine tkq 2 ?_;refine tk 3 (v:=?_) (fun W hS => ?_) ?_;rotate_left
    ·
     try dsimp only at hS
     obtain ⟨z0,z1,z2,z3,z4,z5⟩:=ce6 hS.b.x;go_simp
     try with_reducible rfl
    try simp only [Act.put,pt1,pt2,pt3]
    refine tkq 5 ?_;refine tkq 7 ?_;refine rdy 4 (fun K hK => ?_);have HBS0:=HBS;go_simp;refine (HT.out _ HBS0.out.b).mono ?_;rintro e wn ⟨Ad,cd,rfl,hr,hb⟩;have HBS:=qz (HBS0.out.step hb);have HRA:=qz hr;clear hr;clear hb HBS0;refine koq hK HBS.out (fun hHeld=>?_);clear hK K;refine rdy 6 (fun K hK => ?_);have HBS0:=HBS;go_simp
    refine (rreach13_any n2 Ad (tArr14 S S.H.length) _ cd (k:Int) wn rfl HRA.out HLN.out (by omega)).mono ?_;rintro e wn ⟨gr,Tm,rfl,hrv,hT,hb⟩;have HBS:=qz (HBS0.out.step hb);have HTQ:Hid (Tm q = wayb (Ta16 S) k q):=qz (by have h:=hT k rfl q; rw [h,Ta16,HL2.out])
    have HCL:Hid (wn.cell? ⟨gr,q,none⟩ = some (.bool (Tm q))):=qz (by
      obtain ⟨gb,ob,h1,_,h2⟩:=hrv (by intro e; have:=bls_len Tm n2; rw [e] at this; simp at this; omega);injection h1 with h1
      injection h1 with h3 h4
      subst h3 h4;have h5:=h2 q (.bool (Tm q)) (bls_get Tm hqn)
      rwa [Nat.zero_add] at h5)
    clear hrv hT;clear hb HBS0 HRA;refine koq hK HBS.out (fun hHeld=>?_);clear hK K;refine tkq 8 ?_;refine rdy 9 (fun K hK => ?_);have c9:=HCL.out;go_simp;refine koq hK HBS.out (fun hHeld=>?_);clear hK K;refine rdy 10 (fun K hK => ?_);go_simp;refine koq hK HBS.out (fun hHeld=>?_);clear hK K;refine wpAnyH_done (by kernel_rfl) ?_ _;clear hHeld;have HQ:=HBS
    clear HBS HXN HCL HT
    cases near with
    | false =>
     obtain ⟨bp,hbp⟩:=exq (Tm q);rw [hbp] at HTQ ⊢;have HB2:Hid (bhb16 S (q:Int) false k = bp):=qz (by rw [HBQ.out,if_neg (by decide),HTQ.out]);clear hbp HTQ
     cases bp with
     | false =>
      have HN2:=qz (HQ.out.congr (ys:=all11 (bhb16 S (q:Int) false) (k + 1)) (by rw [HNX.out,HB2.out]; simp));go_wp2_with fail;go_roundw
      case rel => exact ⟨k + 1,A,m,c,rfl,by go_num,by omega,HN2⟩
      case measure => simp [intOf]; omega
     | true =>
      obtain ⟨Az,cz,W2,hrun,har,_⟩:=HQ.out.push k (by omega);have HRUN:=qz hrun;have HAR:=qz (har.congr (ys:=all11 (bhb16 S (q:Int) false) (k + 1)) (by rw [HNX.out,HB2.out]; simp));clear hrun har;go_wp2_with (at_builtin; go_loud (refine wpList_append_14 _ rfl (.tmp 39) (.tmp 41) 26 rfl _ _ _ _ rfl rfl HRUN.out ?_));go_roundw
      case rel => exact ⟨k + 1,Az,m + 1,cz,rfl,by go_num,by omega,HAR⟩
      case measure => simp [intOf]; omega
    | true =>
     have HB2:Hid (bhb16 S (q:Int) true k = (nxt16 S (k:Int) == (q:Int))):=qz (by rw [HBQ.out,if_pos rfl]);clear HTQ;obtain ⟨y0,y1,y2,y3,y4,y5⟩:=ce6 HQ.out.b.x;go_wp2_with fail;refine (HN.out _ HQ.out.b (k:Int)).mono ?_;rintro e u3 ⟨rfl,hb3⟩;have HQ3:=qz (HQ.out.step hb3);obtain ⟨bp,hbp⟩:=exq ((nxt16 S (k:Int) == (q:Int)));rw [hbp] at HB2
     clear hb3 HQ y0 y1 y2 y3 y4 y5
     cases bp with
     | false =>
      have HN2:=qz (HQ3.out.congr (ys:=all11 (bhb16 S (q:Int) true) (k + 1)) (by rw [HNX.out,HB2.out]; simp));go_wp2_with fail;go_roundw
      case rel => exact ⟨k + 1,A,m,c,rfl,by go_num,by omega,HN2⟩
      case measure => simp [intOf]; omega
     | true =>
      obtain ⟨Az,cz,W2,hrun,har,_⟩:=HQ3.out.push k (by omega);have HRUN:=qz hrun;have HAR:=qz (har.congr (ys:=all11 (bhb16 S (q:Int) true) (k + 1)) (by rw [HNX.out,HB2.out]; simp));clear hrun har;go_wp2_with (at_builtin; go_loud (refine wpList_append_14 _ rfl (.tmp 39) (.tmp 41) 26 rfl _ _ _ _ rfl rfl HRUN.out ?_));go_roundw
      case rel => exact ⟨k + 1,Az,m + 1,cz,rfl,by go_num,by omega,HAR⟩
      case measure => simp [intOf]; omega
  ·
   obtain rfl:k = n2:=by omega
   have HL:=qz HW.out.l;have HE:Hid (bh16 S i near = all11 (bhb16 S i near) k):=qz (by unfold bh16; rw [HL2.out]);have h1:¬ (k:Int) < (k:Int):=by omega
   have h2:decide ((k:Int) < (k:Int)) = false:=decide_eq_false h1;go_wp2_with fail;go_ret;rw [HP.out,HE.out];exact ⟨A,c,by rw [HL.out]; rfl,HW.out.rd,HW.out.b.b⟩
end
end Go.Proofs.YtkdmnlihpebbkaaGreat
