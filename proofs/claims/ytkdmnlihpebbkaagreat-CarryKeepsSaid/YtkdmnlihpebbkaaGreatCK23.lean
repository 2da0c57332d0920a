import Derived.Test.YtkdmnlihpebbkaaGreatCK22
set_option linter.all false
set_option maxHeartbeats 8000000
namespace Go.Proofs.YtkdmnlihpebbkaaGreat
section
open Go.RowKit
set_option maxRecDepth 100000
structure Al19 (w:World) (S:Sv14) (A0 A1 A2 A3 A4:Option Addr) (n0 n1 n2 n3 n4 c0 c1 c2 c3 c4:Nat) (sq:Int) (g lo E:Nat) (x:Nat->Rat) (q:Nat->Nat × Nat) (W:World):Prop where
 b:By16 w S A0 A1 A2 A3 A4 n0 n1 n2 n3 n4 c0 c1 c2 c3 c4 sq W
 r:Qr18 W g n2 q
 s:Hs19 W lo E n2 x
 gl:g < lo
 gw:w.heap.size + 1<=g
 ge:E≠g
theorem Al19.step {w:World} {S:Sv14} {A0 A1 A2 A3 A4:Option Addr} {n0 n1 n2 n3 n4 c0 c1 c2 c3 c4:Nat} {sq:Int} {g lo E:Nat} {x:Nat->Rat} {q:Nat->Nat × Nat} {W W':World} (h:Al19 w S A0 A1 A2 A3 A4 n0 n1 n2 n3 n4 c0 c1 c2 c3 c4 sq g lo E x q W) (hb:Below W.heap.size W W'):Al19 w S A0 A1 A2 A3 A4 n0 n1 n2 n3 n4 c0 c1 c2 c3 c4 sq g lo E x q W':=⟨h.b.step hb,h.r.step hb,h.s.step hb,h.gl,h.gw,h.ge⟩
theorem Al19.put {w:World} {S:Sv14} {A0 A1 A2 A3 A4:Option Addr} {n0 n1 n2 n3 n4 c0 c1 c2 c3 c4:Nat} {sq:Int} {g lo E k a b:Nat} {x:Nat->Rat} {q:Nat->Nat × Nat} {W:World} (h:Al19 w S A0 A1 A2 A3 A4 n0 n1 n2 n3 n4 c0 c1 c2 c3 c4 sq g lo E x q W) (hk:k < n2) {D1 D2:Option Addr} {k1 t1 k2 t2 L1 L2:Nat} (hx:Nv W L1 (.slice D1 k1 t1) a) (hy:Nv W L2 (.slice D2 k2 t2) b) :
  Al19 w S A0 A1 A2 A3 A4 n0 n1 n2 n3 n4 c0 c1 c2 c3 c4 sq g lo E x (upd q k (a,b)) (putq18 W g k (.slice D1 k1 t1) (.slice D2 k2 t2)) :=
 ⟨h.b.low (below_putq18 (Below.refl _ _) h.gw _ _),h.r.put hk hx hy,h.s.put h.r hk h.gl h.ge _ _,h.gl,h.gw,h.ge⟩
theorem all19 (v:Value) (S:Sv14) (wC wT:Nat->Rat) (w:World) (h:St14 w v S) (hf:Fine14 S) (hw:Wo18 S wC wT) :
  Calls Tryz.prog 12 #[v] w (RetQs18 w S.H.length (fun i => qr18 (car19 S (th18 S wT) i))):=by
 obtain ⟨A0,A1,A2,A3,A4,n0,n1,n2,n3,n4,c0,c1,c2,c3,c4,sq,rfl,hs⟩:=h;obtain ⟨cr,hcr⟩:=exq (car19 S (th18 S wT));have HA:=qz (fun W (h:Bx14 w S A0 A1 A2 A3 A4 n0 n1 n2 n3 n4 c0 c1 c2 c3 c4 sq W) => handed19 (.agg #[.slice A0 n0 c0,.slice A1 n1 c1,.slice A2 n2 c2,.slice A3 n3 c3,.slice A4 n4 c4,.int .i64 sq]) S wC wT W h.st hf hw);rw [hcr] at HA ⊢
 have HP:Hid (RetQs18 w S.H.length (fun i => qr18 (cr i)) = fun e w' => ∃ g,e = .returned (.slice (some ⟨g,0,none⟩) n2 n2)/\w.heap.size<=g/\Qr18 w' g n2 (fun i => qr18 (cr i))/\Below w.heap.size w w'):=qz (by unfold RetQs18; rw [hs.l2]);have hm2:=hs.m2;have hmk:=make_ratios18 n2 (by omega)
 have hx0:By16 w S A0 A1 A2 A3 A4 n0 n1 n2 n3 n4 c0 c1 c2 c3 c4 sq _:=⟨Bx14.new hs,hs⟩
 obtain ⟨W1,hW1⟩:=exq (w.alloc (.cells #[.slice A0 n0 c0,.slice A1 n1 c1,.slice A2 n2 c2,.slice A3 n3 c3,.slice A4 n4 c4,.int .i64 sq] 28));have hz1:W1.heap.size = w.heap.size + 1:=by rw [<- hW1]; simp
 rw [hW1] at hx0;have hba:=b1' W1 (.cells (madeCells #[.slice none 0 0,.slice none 0 0] (n2 * 2)) 46);have hr2:=made18 W1 n2;have hx2:=hx0.step hba;have hz2:(W1.alloc (.cells (madeCells #[.slice none 0 0,.slice none 0 0] (n2 * 2)) 46)).heap.size = W1.heap.size + 1:=by simp
 obtain ⟨W2,hW2⟩:=exq (W1.alloc (.cells (madeCells #[.slice none 0 0,.slice none 0 0] (n2 * 2)) 46));obtain ⟨g,hgd⟩:=exq W1.heap.size;rw [hW2] at hr2 hx2 hz2;rw [hgd] at hr2 hz2;have hgw:w.heap.size + 1<=g:=by omega
 have HX2:=qz hx2;have HR2:=qz hr2;have HZ2:=qz hz2;have x2:=hx0.b.x.cell 2;have HL2:=qz hs.l2;clear hs hf hw hx0 hba hr2 hx2 hz1 hz2 hcr;go_enter Tryz.func12,Tryz.ntmps12;go_upto_region 2 with (fail)
 clear hmk
 try rw [hW1]
 try rw [hW2]
 try rw [hgd]
 clear hW1 hW2 hgd x2;obtain ⟨x0,x1,x2,x3,x4,x5⟩:=ce6 HX2.out.b.x;go_wp2_with fail;refine (HA.out _ HX2.out.b).mono ?_;rintro e w0 ⟨E,rfl,hE,hEl,hsm,hb⟩;rw [HL2.out] at hsm ⊢
 have HW0:Hid (Al19 w S A0 A1 A2 A3 A4 n0 n1 n2 n3 n4 c0 c1 c2 c3 c4 sq g W2.heap.size E cr (fun _ => (0,0)) w0):=qz ⟨HX2.out.step hb,HR2.out.step hb,hsm,by have:=HZ2.out; omega,hgw,by have:=HZ2.out; omega⟩;clear hE hEl hsm hb HX2 HR2 HA x0 x1 x2 x3 x4 x5;go_wp2_with fail
 go_loopw [13] (fun i wr => ∃ (k:Nat) (q:Nat->Nat × Nat),i = .int .i64 (k:Int)/\k<=n2/\Hid (∀ j,j < k->q j = qr18 (cr j))/\Hid (Al19 w S A0 A1 A2 A3 A4 n0 n1 n2 n3 n4 c0 c1 c2 c3 c4 sq g W2.heap.size E cr q wr)) (fun i _ => n2 - (intOf i).toNat)
 case atStart => exact ⟨0,_,rfl,by omega,qz (fun j hj => by omega),HW0⟩
 case round =>
  clear HW0;obtain ⟨k,q,rfl,hk,HM,HW⟩:=hrel;by_cases hkn:k < n2
  ·
   have i0:(0:Int)<=(k:Int):=by omega
   have i1:(k:Int) < (n2:Int):=by omega
   obtain ⟨A,L,m,c,e1,e2,e3,e4,e5,_⟩:=HW.out.s k hkn;have HSU:=qz (sum18_any A L m c wr e2 e3 e4);rw [e5] at HSU;clear e2 e3 e4 e5;go_wp2_with fail;refine HSU.out.mono ?_;rintro e w4 ⟨A1,i1',t1,A2,i2,t2,rfl,hx,hy,hb4⟩;have h4:=HW.out.step hb4;obtain ⟨B1,m1,d1,B2,m2,d2,f1,f2,_,_,f3,f4⟩:=h4.r.cells hkn;have HN:=qz (h4.put hkn hx hy)
   have HMN:Hid (∀ j,j < k + 1->upd q k ((qr18 (cr k)).1,(qr18 (cr k)).2) j = qr18 (cr j)):=qz (fun j hj => by
    by_cases e:j = k
    · subst e; rw [upd_at]
    · rw [upd_far _ _ e]; exact HM.out j (by omega))
   clear hb4 h4 hx hy HW HM HSU e1;go_wp2_with fail;go_roundw
   case rel => exact ⟨k + 1,_,by go_num,by omega,HMN,HN⟩
   case measure => simp [intOf]; omega
  ·
   obtain rfl:n2 = k:=by omega
   have i1:¬ (n2:Int) < (n2:Int):=by omega
   go_wp2_with fail;go_ret;rw [HP.out];exact ⟨_,rfl,by have:=HW.out.gw; omega,HW.out.r.congr HM.out,HW.out.b.b.b⟩
noncomputable def cw19 (S:Sv14) (w:Nat->Rat) (i:Int):Rat:=if us14 usH S.H i = true then car19 S w i.toNat else 0
theorem at19 (v:Value) (S:Sv14) (wC wT:Nat->Rat) (k:Int) (w:World) (h:St14 w v S) (hf:Fine14 S) (hw:Wo18 S wC wT) :
  Calls Tryz.prog 14 #[v,.int .i64 k] w (RetQ w (qr18 (cw19 S (th18 S wT) k)).1 (qr18 (cw19 S (th18 S wT) k)).2):=by
 obtain ⟨A0,A1,A2,A3,A4,n0,n1,n2,n3,n4,c0,c1,c2,c3,c4,sq,rfl,hs⟩:=h;have hx0:=Bx14.new hs;obtain ⟨W1,hW1⟩:=exq (w.alloc (.cells #[.slice A0 n0 c0,.slice A1 n1 c1,.slice A2 n2 c2,.slice A3 n3 c3,.slice A4 n4 c4,.int .i64 sq] 28));have hz1:W1.heap.size = w.heap.size + 1:=by rw [<- hW1]; simp
 rw [hW1] at hx0;have hb2:=b1' W1 (.cells #[.slice none 0 0,.slice none 0 0] 46);have hk2:=Blk.new W1 46 #[.slice none 0 0,.slice none 0 0];obtain ⟨W2,hW2⟩:=exq (W1.alloc (.cells #[.slice none 0 0,.slice none 0 0] 46));rw [hW2,hz1] at hk2;rw [hW2] at hb2;have hx2:=hx0.step hb2;have HX2:=qz hx2;have HO2:=qz hk2;have hl2:=hk2.lt
 obtain ⟨x0,x1,x2,x3,x4,x5⟩:=ce6 hx2.x;obtain ⟨x,hx⟩:=exq (at14 usH S.H k);obtain ⟨xz,xf,xc,xq,xu⟩:=x;obtain ⟨b,hb⟩:=exq (us14 usH S.H k)
 have HTI:=qz (fun W (h:Bx14 w S A0 A1 A2 A3 A4 n0 n1 n2 n3 n4 c0 c1 c2 c3 c4 sq W) => thread14 (.agg #[.slice A0 n0 c0,.slice A1 n1 c1,.slice A2 n2 c2,.slice A3 n3 c3,.slice A4 n4 c4,.int .i64 sq]) S k xz xf xc xq xu b W h.st hb hx)
 have HA:=qz (fun W (h:Bx14 w S A0 A1 A2 A3 A4 n0 n1 n2 n3 n4 c0 c1 c2 c3 c4 sq W) => handed19 (.agg #[.slice A0 n0 c0,.slice A1 n1 c1,.slice A2 n2 c2,.slice A3 n3 c3,.slice A4 n4 c4,.int .i64 sq]) S wC wT W h.st hf hw);have HL2:=qz hs.l2;obtain ⟨cr,hcr⟩:=exq (car19 S (th18 S wT));rw [hcr] at HA;unfold cw19;rw [hb,hcr];have HB:=qz hb
 clear hs hx0 hb2 hk2 hx2 hb hx hf hw hcr
 cases b with
 | false =>
 rw [if_neg (by decide),qr18_zero];clear HA;go_enter Tryz.func14,Tryz.ntmps14;go_wp2_with fail;refine (HTI.out _ HX2.out).mono ?_;rintro e w3 ⟨rfl,hb3⟩;have hb4:=hb3.trans ((b1' w3 (.cells #[.int .i64 xz,.int .i64 xf,.int .i64 xc,.int .i64 xq,.int .i64 xu] 60)).mono hb3.size);have HX3:=qz (HX2.out.step hb4);have HO3:=qz (HO2.out.below hb4 hl2)
 clear hb3 hb4 HTI HX2 HO2 x0 x1 x2 x3 x4 x5;go_wp2_with fail;refine (ratioZero_r _).mono ?_;rintro e w4 ⟨A1,i1',t1,A2,i2,t2,rfl,hx,hy,hb4⟩;have HX4:=qz (HX3.out.step hb4);have HO4:=qz (HO3.out.below hb4 HO3.out.lt);have hl3:=HO3.out.lt;have HX:=qz hx;have HY:=qz hy;have r0:=HO4.out.cell 0;have r1:=HO4.out.cell 1;have f0:=HO4.out.frozen 0
 have f1:=HO4.out.frozen 1;clear hx hy hb4 HX3 HO3 hW1 hW2
 try rw [hz1]
 clear hz1;go_wp2_with fail;have hp:=put_q HO4.out (.slice A1 i1' t1) (.slice A2 i2 t2)
 exact bodyPost_ret (v:=.agg #[.slice A1 i1' t1,.slice A2 i2 t2]) (by simp [results,Tryz.results14,go_sem,hp.cell 0,hp.cell 1]) rfl
  ⟨_,_,_,_,_,_,rfl,(HX.out.put_q hl3 _ _).more (by omega),(HY.out.put_q hl3 _ _).more (by omega),(HX4.out.b.setCell (by show w.heap.size<=w.heap.size + 1; omega) _).setCell (by show w.heap.size<=w.heap.size + 1; omega) _⟩
 | true =>
 have hin:=ush16_lt HB.out;obtain ⟨j,rfl⟩:∃ j:Nat,k = (j:Int):=⟨k.toNat,by omega⟩
 rw [if_pos rfl,Int.toNat_natCast];have hjn:j < n2:=by have:=HL2.out; omega
 have i0:(0:Int)<=(j:Int):=by omega
 have i1:(j:Int) < (n2:Int):=by omega
 clear hin;go_enter Tryz.func14,Tryz.ntmps14;go_wp2_with fail;refine (HTI.out _ HX2.out).mono ?_;rintro e w3 ⟨rfl,hb3⟩;have hb4:=hb3.trans ((b1' w3 (.cells #[.int .i64 xz,.int .i64 xf,.int .i64 xc,.int .i64 xq,.int .i64 xu] 60)).mono hb3.size);have HX3:=qz (HX2.out.step hb4);have HO3:=qz (HO2.out.below hb4 hl2);have hx3:=HX3.out.x
 obtain ⟨y0,y1,y2,y3,y4,y5⟩:=ce6 hx3;clear hx3 hb3 hb4 HTI HX2 HO2 x0 x1 x2 x3 x4 x5;go_wp2_with fail;refine (HA.out _ HX3.out).mono ?_;rintro e w0 ⟨E,rfl,_,hEl,hsm,hb⟩;rw [HL2.out] at hsm ⊢;obtain ⟨A,L,m,c,e1,e2,e3,e4,e5,_⟩:=hsm j hjn;have HSU:=qz (sum18_any A L m c w0 e2 e3 e4);rw [e5] at HSU;have HX3:=qz (HX3.out.step hb)
 have HO3:=qz (HO3.out.below hb HO3.out.lt);clear e2 e3 e4 e5 hsm hb HA y0 y1 y2 y3 y4 y5;go_wp2_with fail;refine HSU.out.mono ?_;rintro e w4 ⟨A1,i1',t1,A2,i2,t2,rfl,hx,hy,hb4⟩;have HX4:=qz (HX3.out.step hb4);have HO4:=qz (HO3.out.below hb4 HO3.out.lt);have hl3:=HO3.out.lt;have HX:=qz hx;have HY:=qz hy;have r0:=HO4.out.cell 0;have r1:=HO4.out.cell 1
 have f0:=HO4.out.frozen 0;have f1:=HO4.out.frozen 1;clear hx hy hb4 HX3 HO3 hW1 hW2 HSU e1
 try rw [hz1]
 clear hz1;go_wp2_with fail;have hp:=put_q HO4.out (.slice A1 i1' t1) (.slice A2 i2 t2)
 exact bodyPost_ret (v:=.agg #[.slice A1 i1' t1,.slice A2 i2 t2]) (by simp [results,Tryz.results14,go_sem,hp.cell 0,hp.cell 1]) rfl
  ⟨_,_,_,_,_,_,rfl,(HX.out.put_q hl3 _ _).more (by omega),(HY.out.put_q hl3 _ _).more (by omega),(HX4.out.b.setCell (by show w.heap.size<=w.heap.size + 1; omega) _).setCell (by show w.heap.size<=w.heap.size + 1; omega) _⟩
def en19 (S:Sv14) (n:Nat):List Nat:=all11 (fun e => decide (go19 S e)) n
theorem en19_next (S:Sv14) (k:Nat) {z f c q u:Int} (h:gt14 S.H k = ⟨z,f,c,q,u⟩):en19 S (k + 1) = en19 S k ++ if z = 2\/z = 3 then [k] else []:=by
 have hg:go19 S k↔z = 2\/z = 3:=by unfold go19; rw [h]
 unfold en19;rw [all11_next];by_cases h2:go19 S k
 · rw [if_pos (by simpa using h2),if_pos (hg.1 h2)]
 · rw [if_neg (by simpa using h2),if_neg (fun h3 => h2 (hg.2 h3))]
theorem en19_len (S:Sv14) (n:Nat):(en19 S n).length<=n:=all11_len _ _
theorem en19_lt {S:Sv14} {n e:Nat} (h:e∈en19 S n):e < n:=by
 unfold en19 all11 at h;rw [List.mem_filter,List.mem_range] at h;exact h.1
theorem ends19 (v:Value) (S:Sv14) (w:World) (h:St14 w v S):Calls Tryz.prog 16 #[v] w (RetR15 w (en19 S S.H.length)):=by
 obtain ⟨A0,A1,A2,A3,A4,n0,n1,n2,n3,n4,c0,c1,c2,c3,c4,sq,rfl,hs⟩:=h;have HP:Hid (RetR15 w (en19 S S.H.length) = fun e w' => ∃ A c,e = .returned (.slice A (en19 S n2).length c)/\Rd w' w'.heap.size A (en19 S n2)/\Below w.heap.size w w'):=qz (by rw [hs.l2]; rfl)
 have HX0:Hid (Ti15 w (w.heap.size + 1) S A0 A1 A2 A3 A4 n0 n1 n2 n3 n4 c0 c1 c2 c3 c4 sq none 0 0 (en19 S 0) (w.alloc (.cells #[.slice A0 n0 c0,.slice A1 n1 c1,.slice A2 n2 c2,.slice A3 n3 c3,.slice A4 n4 c4,.int .i64 sq] 28))):=qz (Ti15.start hs (Bx14.new hs) (by omega) (by simp));have hnb:=hs.m2;have t1:=HX0.out.b.x.cell 2;clear hs
 go_enter Tryz.func16,Tryz.ntmps16;go_wp2_with fail;clear t1;go_loopw [2,8] (fun v i wr => ∃ (k:Nat) (A:Option Addr) (m c:Nat),v = .slice A m c/\i = .int .i64 (k:Int)/\k<=n2/\Hid (Ti15 w (w.heap.size + 1) S A0 A1 A2 A3 A4 n0 n1 n2 n3 n4 c0 c1 c2 c3 c4 sq A m c (en19 S k) wr)) (fun _ i _ => n2 - (intOf i).toNat)
 case atStart => exact ⟨0,none,0,0,rfl,rfl,by omega,HX0⟩
 case round =>
  clear HX0;obtain ⟨k,A,m,c,rfl,rfl,hk,HW⟩:=hrel;by_cases hkn:k < n2
  ·
   obtain ⟨a,of,hA,hab,hq⟩:=Lq.at_ len14H (by omega) HW.out.b.s.r2 (show k < S.H.length by rw [HW.out.b.s.l2]; omega);obtain ⟨x,hx⟩:=exq (gt14 S.H k);rw [hx] at hq;obtain ⟨xz,xf,xc,xq,xu⟩:=x;have e0:wr.cell? ⟨a,of + k * 5,none⟩ = some (.int .i64 xz):=hq 0 _ rfl;have e1:wr.cell? ⟨a,of + k * 5 + 1,none⟩ = some (.int .i64 xf):=hq 1 _ rfl
   have e2:wr.cell? ⟨a,of + k * 5 + 2,none⟩ = some (.int .i64 xc):=hq 2 _ rfl;have e3:wr.cell? ⟨a,of + k * 5 + 3,none⟩ = some (.int .i64 xq):=hq 3 _ rfl;have e4:wr.cell? ⟨a,of + k * 5 + 4,none⟩ = some (.int .i64 xu):=hq 4 _ rfl;have HV:=qz (HW.out.step (b1' wr (.cells #[.int .i64 xz,.int .i64 xf,.int .i64 xc,.int .i64 xq,.int .i64 xu] 60)))
   have hv:=Blk.new wr 60 #[.int .i64 xz,.int .i64 xf,.int .i64 xc,.int .i64 xq,.int .i64 xu];have v0:=hv.cell 0;obtain ⟨X,hX⟩:=exq (wr.alloc (.cells #[.int .i64 xz,.int .i64 xf,.int .i64 xc,.int .i64 xq,.int .i64 xu] 60));rw [hX] at HV v0;clear hv;have i0:(0:Int)<=(k:Int):=by omega
   have i1:(k:Int) < (n2:Int):=by omega
   have hmk:m<=k:=by rw [<- HW.out.l]; exact en19_len S k
   have hnx:=en19_next S k hx;clear hq hx hab;subst hA;by_cases z2:xz = 2
   ·
    subst z2;have HE:Hid (en19 S (k + 1) = en19 S k ++ [k]):=qz (by rw [hnx,if_pos (.inl rfl)]);clear hnx;obtain ⟨Az,cz,W2,hrun,har,_⟩:=HV.out.push k (by omega);have HRUN:=qz hrun;have HAR:=qz (har.congr HE.out.symm);clear hrun har;go_wp2_with (at_builtin; go_loud (refine wpList_append_14 _ rfl (.tmp 21) (.tmp 23) 26 rfl _ _ _ _ rfl rfl HRUN.out ?_))
    go_roundw
    case rel => exact ⟨k + 1,Az,m + 1,cz,rfl,by go_num,by omega,HAR⟩
    case measure => simp [intOf]; omega
   ·
    have z2b:(xz == 2) = false:=by simp [z2]
    by_cases z3:xz = 3
    ·
     subst z3;have HE:Hid (en19 S (k + 1) = en19 S k ++ [k]):=qz (by rw [hnx,if_pos (.inr rfl)]);clear hnx;obtain ⟨Az,cz,W2,hrun,har,_⟩:=HV.out.push k (by omega);have HRUN:=qz hrun;have HAR:=qz (har.congr HE.out.symm);clear hrun har;go_wp2_with (at_builtin; go_loud (refine wpList_append_14 _ rfl (.tmp 21) (.tmp 23) 26 rfl _ _ _ _ rfl rfl HRUN.out ?_))
     go_roundw
     case rel => exact ⟨k + 1,Az,m + 1,cz,rfl,by go_num,by omega,HAR⟩
     case measure => simp [intOf]; omega
    ·
     have z3b:(xz == 3) = false:=by simp [z3]
     have HN:=qz (HV.out.congr (ys:=en19 S (k + 1)) (by rw [hnx,if_neg (fun h => by rcases h with h | h; exact z2 h; exact z3 h),List.append_nil]));clear hnx;go_wp2_with fail;go_roundw
     case rel => exact ⟨k + 1,A,m,c,rfl,by go_num,by omega,HN⟩
     case measure => simp [intOf]; omega
  ·
   obtain rfl:k = n2:=by omega
   have HL:=qz HW.out.l;have h1:¬ (k:Int) < (k:Int):=by omega
   go_wp2_with fail;go_ret;rw [HP.out];exact ⟨A,c,by rw [HL.out]; rfl,HW.out.rd,HW.out.b.b⟩
structure To19 (w:World) (S:Sv14) (A0 A1 A2 A3 A4:Option Addr) (n0 n1 n2 n3 n4 c0 c1 c2 c3 c4:Nat) (sq:Int) (w1:World) (g:Nat) (A:Option Addr) (m c:Nat) (l:List Nat) (W:World):Prop where
 b:By16 w S A0 A1 A2 A3 A4 n0 n1 n2 n3 n4 c0 c1 c2 c3 c4 sq W
 v:Blk W (w.heap.size + 1) 46 #[.slice none 0 0,.slice none 0 0]
 z:Below w1.heap.size w1 W
 o:W.ownsRow w1.heap.size 46 2 (.slice A m c) m (fl14 (cq19 w1 g) l)
 l:l.length = m
 h:w.heap.size + 1 < w1.heap.size
theorem To19.push {w:World} {S:Sv14} {A0 A1 A2 A3 A4:Option Addr} {n0 n1 n2 n3 n4 c0 c1 c2 c3 c4:Nat} {sq:Int} {w1:World} {g:Nat} {A:Option Addr} {m c:Nat} {l:List Nat} {W:World} (h:To19 w S A0 A1 A2 A3 A4 n0 n1 n2 n3 n4 c0 c1 c2 c3 c4 sq w1 g A m c l W) {x:Nat} {B1 B2:Option Addr} {m1 d1 m2 d2:Nat} (hc:cq19 w1 g x = [.slice B1 m1 d1,.slice B2 m2 d2]) (hm:m<=5000) :
  ∃ A' c' W3,(Builtin.append_ #[40,40] 40 #[.slice A m c,.slice (some ⟨W.heap.size,0,none⟩) 1 1]).run Tryz.prog (W.alloc (.cells #[.slice B1 m1 d1,.slice B2 m2 d2] 46)) = .ok (.slice A' (m + 1) c') W3/\To19 w S A0 A1 A2 A3 A4 n0 n1 n2 n3 n4 c0 c1 c2 c3 c4 sq w1 g A' (m + 1) c' (l ++ [x]) W3:=by
 obtain ⟨A',c',W3,hrun,hown,hg,hB,_⟩:=row19 h.o h.z.size hm B1 B2 m1 d1 m2 d2;have hh:=h.h;refine ⟨A',c',W3,hrun,h.b.low (hB.mono (by omega)),h.v.below hB (by omega),h.z.trans hB,?_,by simp [h.l],h.h⟩;rw [fl14_append,show fl14 (cq19 w1 g) [x] = #[.slice B1 m1 d1,.slice B2 m2 d2].toList by simp [fl14,hc]];exact hown
theorem total19 (v:Value) (S:Sv14) (wC wT:Nat->Rat) (w:World) (h:St14 w v S) (hf:Fine14 S) (hw:Wo18 S wC wT) :
  Calls Tryz.prog 18 #[v] w (RetQ w (qr18 ((amt17 S 0 S.T.length:Int):Rat)).1 (qr18 ((amt17 S 0 S.T.length:Int):Rat)).2):=by
 obtain ⟨A0,A1,A2,A3,A4,n0,n1,n2,n3,n4,c0,c1,c2,c3,c4,sq,rfl,hs⟩:=h
 have hsum:tsum18 (car19 S (th18 S wT)) (en19 S S.H.length) (en19 S S.H.length).length = ((amt17 S 0 S.T.length:Int):Rat):=by
  unfold en19;rw [tsum18_all,<- hw.carry hf];refine sumR_congr (fun k _ => ?_);by_cases h:go19 S k <;> simp [h]
 rw [<- hsum];have h32:n2<=32:=by have:=hf.2.2.1.2.2.1.1; have:=hs.l2; omega
 have hsq:=hw.car_sq hf;have HNN:Hid (∀ k,0<=car19 S (th18 S wT) k):=qz (fun k => car19_nonneg hsq.1 k);have HSM:Hid (∀ k,Sm18 (qr18 (car19 S (th18 S wT) k))):=qz (fun k => ⟨Nat.lt_of_lt_of_le (hsq.2.1 k).2.1 (by decide),Nat.lt_of_lt_of_le (hsq.2.1 k).2.2 (by decide)⟩)
 have HA:=qz (fun W (h:Bx14 w S A0 A1 A2 A3 A4 n0 n1 n2 n3 n4 c0 c1 c2 c3 c4 sq W) => all19 (.agg #[.slice A0 n0 c0,.slice A1 n1 c1,.slice A2 n2 c2,.slice A3 n3 c3,.slice A4 n4 c4,.int .i64 sq]) S wC wT W h.st hf hw)
 have HEN:=qz (fun W (h:Bx14 w S A0 A1 A2 A3 A4 n0 n1 n2 n3 n4 c0 c1 c2 c3 c4 sq W) => ends19 (.agg #[.slice A0 n0 c0,.slice A1 n1 c1,.slice A2 n2 c2,.slice A3 n3 c3,.slice A4 n4 c4,.int .i64 sq]) S W h.st);obtain ⟨cr,hcr⟩:=exq (car19 S (th18 S wT));rw [hcr] at HA HNN HSM ⊢;obtain ⟨es,hes⟩:=exq (en19 S S.H.length)
 have hme:∀ t,t∈es->t < n2:=fun t ht => by
  rw [<- hes] at ht;have:=en19_lt ht;have:=hs.l2;omega
 have hle:es.length<=n2:=by rw [<- hes]; have:=en19_len S S.H.length; have:=hs.l2; omega
 rw [hes] at HEN ⊢;obtain ⟨m,hm⟩:=exq es.length;rw [hm] at hle ⊢;have HM:=qz hm;have HME:=qz hme;have HL2:=qz hs.l2;have hx0:By16 w S A0 A1 A2 A3 A4 n0 n1 n2 n3 n4 c0 c1 c2 c3 c4 sq _:=⟨Bx14.new hs,hs⟩
 obtain ⟨W1,hW1⟩:=exq (w.alloc (.cells #[.slice A0 n0 c0,.slice A1 n1 c1,.slice A2 n2 c2,.slice A3 n3 c3,.slice A4 n4 c4,.int .i64 sq] 28));have hz1:W1.heap.size = w.heap.size + 1:=by rw [<- hW1]; simp
 rw [hW1] at hx0;have hb2:=b1' W1 (.cells #[.slice none 0 0,.slice none 0 0] 46);have hk2:=Blk.new W1 46 #[.slice none 0 0,.slice none 0 0];obtain ⟨W2,hW2⟩:=exq (W1.alloc (.cells #[.slice none 0 0,.slice none 0 0] 46));rw [hW2,hz1] at hk2;rw [hW2] at hb2;have hx2:=hx0.step hb2;have HX2:=qz hx2;have HO2:=qz hk2;obtain ⟨x0,x1,x2,x3,x4,x5⟩:=ce6 hx2.b.x
 clear hs hf hw hsq hx0 hb2 hk2 hx2 hcr hes hm hme hsum;go_enter Tryz.func18,Tryz.ntmps18;go_wp2_with fail;refine (HA.out _ HX2.out.b).mono ?_;rintro e w1 ⟨g,rfl,hg,hr,hb⟩;rw [HL2.out] at hr ⊢;have HX3:=qz (HX2.out.step hb);have HO3:=qz (HO2.out.below hb HO2.out.lt);have HQ:=qz hr;obtain ⟨y0,y1,y2,y3,y4,y5⟩:=ce6 HX3.out.b.x
 clear hr hg hb HX2 HO2 HA x0 x1 x2 x3 x4 x5;go_wp2_with fail;refine (HEN.out _ HX3.out.b).mono ?_;rintro e w2 ⟨A,ca,rfl,hr,hb⟩;rw [HM.out];have HER:=qz hr;have HQ:=qz (HQ.out.step hb)
 have HTO:Hid (To19 w S A0 A1 A2 A3 A4 n0 n1 n2 n3 n4 c0 c1 c2 c3 c4 sq w2 g none 0 0 (es.take 0) w2):=qz ⟨HX3.out.step hb,HO3.out.below hb HO3.out.lt,Below.refl _ _,World.ownsRow_nil _ _ _ _,rfl,(HO3.out.below hb HO3.out.lt).lt⟩;clear hr hb HX3 HO3 HEN y0 y1 y2 y3 y4 y5;go_wp2_with fail
 go_loopw [4,12] (fun v i wr => ∃ (k:Nat) (B:Option Addr) (d:Nat),v = .slice B k d/\i = .int .i64 (k:Int)/\k<=m/\Hid (To19 w S A0 A1 A2 A3 A4 n0 n1 n2 n3 n4 c0 c1 c2 c3 c4 sq w2 g B k d (es.take k) wr)) (fun _ i _ => m - (intOf i).toNat)
 case atStart => exact ⟨0,none,0,rfl,rfl,by omega,HTO⟩
 case round =>
  clear HTO;obtain ⟨k,B,d,rfl,rfl,hk,HW⟩:=hrel;by_cases hkm:k < m
  ·
   have hkl:k < es.length:=by rw [HM.out]; exact hkm
   obtain ⟨ga,oa,hA,hab,q0⟩:=(HER.out.below HW.out.z (Nat.le_refl _)).at_ hkl;obtain ⟨f,hfj⟩:=exq (nth es k);have hfn:f < n2:=HME.out f (by rw [<- hfj,nth_in hkl]; exact List.getElem_mem _);have htk:=take15_next hkl;rw [hfj] at q0 htk;obtain ⟨B1,m1,d1,B2,m2,d2,hcq,e1,e2,_⟩:=cq19_at HQ.out hfn
   have z1:=(HW.out.z.cell (World.block_lt_of_cell? _ _ e1)).trans e1;have z2:=(HW.out.z.cell (World.block_lt_of_cell? _ _ e2)).trans e2;obtain ⟨Az,cz,W3,hrun,hto⟩:=HW.out.push hcq (by omega);rw [<- htk] at hto;have HRUN:=qz hrun;have HN:=qz hto;have i0:(0:Int)<=(k:Int):=by omega
   have i1:(k:Int) < (m:Int):=by omega
   have f0:(0:Int)<=(f:Int):=by omega
   have f1:(f:Int) < (n2:Int):=by omega
   clear hkl hab hfj htk hcq e1 e2 hrun hto;rw [hA];go_wp2_with (at_builtin; go_loud (refine wpList_append_14 _ rfl (.tmp 16) (.tmp 21) 40 rfl _ _ _ _ rfl rfl HRUN.out ?_));go_roundw
   case rel => exact ⟨k + 1,Az,cz,rfl,by go_num,by omega,HN⟩
   case measure => simp [intOf]; omega
  ·
   obtain rfl:m = k:=by omega
   have i1:¬ (m:Int) < (m:Int):=by omega
   have hrt:=rats19 HW.out.o HW.out.l HQ.out (fun t ht => HME.out t (List.mem_of_mem_take ht)) (fun _ _ => rfl) (fun j _ => HSM.out j) (fun hv => hv.below HW.out.z);rw [show es.take m = es from List.take_of_length_le (by have:=HM.out; omega)] at hrt;have hsu:=sum18_any B _ m d wr (by simp) hrt (by omega);rw [fold18_range es m HNN.out] at hsu
   have HSU:=qz hsu;have HX3:=qz HW.out.b.b;have HO3:=qz HW.out.v;clear hrt hsu HW;go_wp2_with fail;refine HSU.out.mono ?_;rintro e w4 ⟨A1,i1',t1,A2,i2,t2,rfl,hx,hy,hb4⟩;have HX4:=qz (HX3.out.step hb4);have HO4:=qz (HO3.out.below hb4 HO3.out.lt);have hl3:=HO3.out.lt;have HX:=qz hx;have HY:=qz hy;have r0:=HO4.out.cell 0;have r1:=HO4.out.cell 1
   have g0:=HO4.out.frozen 0;have g1:=HO4.out.frozen 1;clear hx hy hb4 HX3 HO3 HSU hW1 hW2
   try rw [hz1]
   clear hz1;go_wp2_with fail;have hp:=put_q HO4.out (.slice A1 i1' t1) (.slice A2 i2 t2)
   exact bodyPost_ret (v:=.agg #[.slice A1 i1' t1,.slice A2 i2 t2]) (by simp [results,Tryz.results18,go_sem,hp.cell 0,hp.cell 1]) rfl
    ⟨_,_,_,_,_,_,rfl,(HX.out.put_q hl3 _ _).more (by omega),(HY.out.put_q hl3 _ _).more (by omega),(HX4.out.b.setCell (by show w.heap.size<=w.heap.size + 1; omega) _).setCell (by show w.heap.size<=w.heap.size + 1; omega) _⟩
structure Be18 (w W:World):Prop where
 z:Below w.heap.size w W
theorem Be18.step {w W W':World} (h:Be18 w W) (hb:Below W.heap.size W W'):Be18 w W':=⟨h.z.trans (hb.mono h.z.size)⟩
theorem RetQ.q0 {w w':World} {n d:Nat} {e:Ending} (h:RetQ w n d e w'):RetQ0 w n d e w':=by
 obtain ⟨A1,n1,c1,A2,n2,c2,h1,h2,h3,h4⟩:=h;exact ⟨A1,n1,c1,A2,n2,c2,h1,h2.more (Nat.zero_le _),h3.more (Nat.zero_le _),h4⟩
def Fs18 (wc wn:World) (l:List (Nat × TypeId × Array Value)):Prop:=Below wc.heap.size wc wn/\∀ p,p∈l->Blk wn p.1 p.2.1 p.2.2/\wc.heap.size<=p.1
theorem Fs18.ca {wc wn w2:World} {l:List (Nat × TypeId × Array Value)} (h:Fs18 wc wn l) (hb:Below wn.heap.size wn w2):Fs18 wc w2 l:=⟨h.1.trans (hb.mono h.1.size),fun p hp => ⟨(h.2 p hp).1.below hb (h.2 p hp).1.lt,(h.2 p hp).2⟩⟩
theorem Fs18.al {wc wn:World} (l1 l2:List (Nat × TypeId × Array Value)) (h:Fs18 wc wn (l1 ++ l2)) (cs:Array Value) (t:TypeId):Fs18 wc (wn.alloc (.cells cs t)) (l1 ++ (wn.heap.size,t,cs) :: l2):=by
 have h1:=h.ca (b1' wn (.cells cs t));refine ⟨h1.1,fun p hp => ?_⟩;rcases List.mem_append.1 hp with hp | hp
 · exact h1.2 p (List.mem_append.2 (.inl hp))
 ·
  rcases List.mem_cons.1 hp with rfl | hp
  · exact ⟨Blk.new _ _ _,h.1.size⟩
  · exact h1.2 p (List.mem_append.2 (.inr hp))
section
variable {t0 t1 t2 t3 t4 t5 t6 t7 t8 t9 t10 t11 t12 t13 t14 t15 t16 t17 t18 t19 t20 t21 t22 t23 t24 t25 t26 t27 t28 t29 t30 t31 t32 t33 t34 t35 t36 t37 t38 t39 t40 t41 t42 t43 t44:Value}
variable {Q:Exit->Act->World->Prop}
end
theorem int18_00 (W:World):Calls Tryz.prog 10 #[.int .u64 0] W (RetDB W 0 1):=int4_b 0 W (by omega)
theorem same18 {A1 A2 B1 B2:Option Addr} {n1 c1 n2 c2 i1 e1 i2 e2 a b lo lo':Nat} (w:World) (h1:Nv w 0 (.slice A1 n1 c1) a) (h2:Nv w 0 (.slice A2 n2 c2) b) (h3:∃ L,lo<=L/\Num w L (.agg #[.slice B1 i1 e1]) a) (h4:∃ L,lo'<=L/\Num w L (.agg #[.slice B2 i2 e2]) b) (ha:a < 65536 ^ 36) (hb:b < 65536 ^ 36) :
  Calls Tryz.prog 13 #[.agg #[.slice A1 n1 c1,.slice A2 n2 c2],.agg #[.slice B1 i1 e1,.slice B2 i2 e2]] w fun e w' => e = .returned (.bool true)/\Below w.heap.size w w':=by
 obtain ⟨L3,_,h3⟩:=h3;obtain ⟨L4,_,h4⟩:=h4;exact same4_r (j:=36) w h1 h2 h3 h4 ha hb (by omega)
end
end Go.Proofs.YtkdmnlihpebbkaaGreat
