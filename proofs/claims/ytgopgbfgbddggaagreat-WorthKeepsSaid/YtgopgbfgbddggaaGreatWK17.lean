/-
  SaidWorthKeeps, part 17 of 30: what the theorem worthKeeps_holds reaches.
-/
import Derived.Test.YtgopgbfgbddggaaGreatWK16
set_option linter.all false
namespace Go.Proofs.YtgopgbfgbddggaaGreat
open Go.RowKit
set_option maxRecDepth 100000
set_option maxHeartbeats 2000000 in
theorem low_b {j:Nat} (A1 A2:Option Addr) (n1 c1 n2 c2 a b L1 L2:Nat) (w:World) (h1:Num w L1 (.agg #[.slice A1 n1 c1]) a) (h2:Num w L2 (.agg #[.slice A2 n2 c2]) b) (ha:a < 65536 ^ j) (hb:b < 65536 ^ j) (hb0:0 < b) (hj:j≤2000) :
  Calls Tryz.prog 51 #[.agg #[.slice A1 n1 c1,.slice A2 n2 c2]] w (RetDB w (a / Nat.gcd a b) (b / Nat.gcd a b)):=by
 have hbb:=b2 w (.cells #[.slice A1 n1 c1,.slice A2 n2 c2] 35) (.cells #[.slice none 0 0,.slice none 0 0] 35)
 have q1:=(Blk.new w 35 #[.slice A1 n1 c1,.slice A2 n2 c2]).alloc (.cells #[.slice none 0 0,.slice none 0 0] 35)
 have q2:=Blk.new (w.alloc (.cells #[.slice A1 n1 c1,.slice A2 n2 c2] 35)) 35 #[.slice none 0 0,.slice none 0 0]
 rw [World.size_alloc] at q2
 obtain ⟨W0,hW0⟩:∃ W0,(w.alloc (.cells #[.slice A1 n1 c1,.slice A2 n2 c2] 35)).alloc (.cells #[.slice none 0 0,.slice none 0 0] 35) = W0:=⟨_,rfl⟩
 rw [hW0] at hbb q1 q2
 have hg:Nat.gcd a b < 65536 ^ j:=gcd_small ha hb
 have hg0:0 < Nat.gcd a b:=Nat.gcd_pos_of_pos_right _ hb0
 have HX:=Lib.hid (h1.below hbb)
 have HY:=Lib.hid (h2.below hbb)
 have HA:=Lib.hid ha
 have HB:=Lib.hid hb
 obtain ⟨G,hG⟩:∃ G,Nat.gcd a b = G:=⟨_,rfl⟩
 have hgc:=refGcd3_any A1 A2 n1 c1 n2 c2 a b _ _ W0 HX.out HY.out ha hb (by omega)
 rw [hG] at hg hg0 hgc ⊢
 have HG:=Lib.hid hg
 have HG0:=Lib.hid hg0
 have x0:W0.cell? ⟨w.heap.size,0,none⟩ = some (.slice A1 n1 c1):=q1.cell 0
 have x1:W0.cell? ⟨w.heap.size,1,none⟩ = some (.slice A2 n2 c2):=q1.cell 1
 have hl1:=q1.lt
 have hl2:=q2.lt
 have Q2:=Lib.hid q2
 clear h1 h2 ha hb hg hg0 hG q1 q2
 go_enter Tryz.func51,Tryz.ntmps51
 go_wp2_with fail
 refine hgc.mono ?_
 rintro e w1 ⟨v,rfl,⟨L3,hv⟩,hb1⟩
 obtain ⟨A3,n3,c3,rfl⟩:=hv.shape
 have ha1:=b1 w1 (.cells #[.slice A3 n3 c3] 33)
 have hb2:=hb1.trans (ha1.mono hb1.size)
 have xx:=cells2 hb2 ⟨x0,x1⟩
 have HX:=Lib.hid (HX.out.below hb2)
 have HY:=Lib.hid (HY.out.below hb2)
 have HV:=Lib.hid (hv.below ha1)
 have g0:(w1.alloc (.cells #[.slice A3 n3 c3] 33)).cell? ⟨w1.heap.size,0,none⟩ = some (.slice A3 n3 c3):=(Blk.new w1 _ _).cell 0
 have Q2:=Lib.hid (Q2.out.below hb2 hl2)
 have hBw:=hbb.trans (hb2.mono hbb.size)
 have hl1:w.heap.size < (w1.alloc (.cells #[.slice A3 n3 c3] 33)).heap.size:=Nat.lt_of_lt_of_le hl1 hb2.size
 have hgl:w1.heap.size < (w1.alloc (.cells #[.slice A3 n3 c3] 33)).heap.size:=by simp
 clear hgc hv hb1 hb2 ha1 x0 x1 hbb hl2 hW0
 go_upto_region 2 with (fail)
 obtain ⟨g3,hg3⟩:∃ g3,w1.heap.size = g3:=⟨_,rfl⟩
 obtain ⟨W1,hW1⟩:∃ W1,w1.alloc (.cells #[.slice A3 n3 c3] 33) = W1:=⟨_,rfl⟩
 rw [hW1] at xx HX HY HV g0 Q2 hBw hl1 hgl
 rw [hg3] at g0 hgl
 rw [hg3,hW1]
 clear hg3 hW1
 obtain ⟨x0,x1⟩:=xx
 go_wp2_with fail
 refine (div_num _ _ a G _ _ W1 HX.out HV.out HA.out HG.out HG0.out).mono ?_
 rintro e w2 ⟨v1,v2,rfl,hv1,hv2,hb3⟩
 obtain ⟨B1,i1,e1,rfl⟩:=hv1.shape
 obtain ⟨B2,i2,e2,rfl⟩:=hv2.shape
 have ha2:=b2 w2 (.cells #[.slice B1 i1 e1] 33) (.cells #[.slice B2 i2 e2] 33)
 have hb4:=hb3.trans (ha2.mono hb3.size)
 have xx:=cells2 hb4 ⟨x0,x1⟩
 have gg:=(hb4.cell (p:=⟨g3,0,none⟩) hgl).trans g0
 have HY:=Lib.hid (HY.out.below hb4)
 have HV:=Lib.hid (HV.out.below hb4)
 have HN:=Lib.hid (num_lower (hv1.below ha2) (show w.heap.size≤W1.heap.size from hBw.size))
 have n0:((w2.alloc (.cells #[.slice B1 i1 e1] 33)).alloc (.cells #[.slice B2 i2 e2] 33)).cell? ⟨w2.heap.size,0,none⟩ = some (.slice B1 i1 e1):=((Blk.new w2 33 #[.slice B1 i1 e1]).alloc _).cell 0
 have Q2:=Lib.hid (Q2.out.below hb4 Q2.out.lt)
 have hBw:=hBw.trans (hb4.mono hBw.size)
 have hnl:w2.heap.size < ((w2.alloc (.cells #[.slice B1 i1 e1] 33)).alloc (.cells #[.slice B2 i2 e2] 33)).heap.size:=by simp; omega
 clear hv1 hv2 hb3 hb4 ha2 x0 x1 g0 HX hl1 hgl
 go_upto_region 3 with (fail)
 obtain ⟨g4,hg4⟩:∃ g4,w2.heap.size = g4:=⟨_,rfl⟩
 obtain ⟨W2,hW2⟩:∃ W2,(w2.alloc (.cells #[.slice B1 i1 e1] 33)).alloc (.cells #[.slice B2 i2 e2] 33) = W2:=⟨_,rfl⟩
 rw [hW2] at xx gg HY HV HN n0 Q2 hBw hnl
 rw [hg4] at n0 hnl
 rw [hg4,hW2]
 clear hg4 hW2
 obtain ⟨x0,x1⟩:=xx
 go_wp2_with fail
 refine (div_num _ _ b G _ _ W2 HY.out HV.out HB.out HG.out HG0.out).mono ?_
 rintro e w3 ⟨v3,v4,rfl,hv3,hv4,hb5⟩
 obtain ⟨B3,i3,e3,rfl⟩:=hv3.shape
 obtain ⟨B4,i4,e4,rfl⟩:=hv4.shape
 have ha3:=b2 w3 (.cells #[.slice B3 i3 e3] 33) (.cells #[.slice B4 i4 e4] 33)
 have hb6:=hb5.trans (ha3.mono hb5.size)
 have m0:=(hb6.cell (p:=⟨g4,0,none⟩) hnl).trans n0
 have HN:=Lib.hid (HN.out.below hb6)
 have HD:=Lib.hid (num_lower (hv3.below ha3) (show w.heap.size≤W2.heap.size from hBw.size))
 have d0:((w3.alloc (.cells #[.slice B3 i3 e3] 33)).alloc (.cells #[.slice B4 i4 e4] 33)).cell? ⟨w3.heap.size,0,none⟩ = some (.slice B3 i3 e3):=((Blk.new w3 33 #[.slice B3 i3 e3]).alloc _).cell 0
 have Q2:=Lib.hid (Q2.out.below hb6 Q2.out.lt)
 have hBw:=hBw.trans (hb6.mono hBw.size)
 clear hv3 hv4 hb5 hb6 ha3 x0 x1 gg n0 HY HV hnl
 go_upto_region 4 with (fail)
 obtain ⟨W3,hW3⟩:∃ W3,(w3.alloc (.cells #[.slice B3 i3 e3] 33)).alloc (.cells #[.slice B4 i4 e4] 33) = W3:=⟨_,rfl⟩
 rw [hW3] at m0 HN HD d0 Q2 hBw
 rw [hW3]
 clear hW3
 have k0:W3.cell? ⟨w.heap.size + 1,0,none⟩ = some (.slice none 0 0):=Q2.out.cell 0
 have k1:W3.cell? ⟨w.heap.size + 1,1,none⟩ = some (.slice none 0 0):=Q2.out.cell 1
 have f0:=Q2.out.frozen 0
 have f1:=Q2.out.frozen 1
 go_wp2_with fail
 have hp:=put_Q Q2.out (.slice B1 i1 e1) (.slice B3 i3 e3)
 have k1':(W3.setCell ⟨w.heap.size + 1,0,none⟩ (.slice B1 i1 e1)).cell? ⟨w.heap.size + 1,1,none⟩ = some (.slice none 0 0):=(World.cell?_setCell_other _ _ _ _ (by intro e; injection e; omega)).trans k1
 exact bodyPost_ret (v:=.agg #[.slice B1 i1 e1,.slice B3 i3 e3]) (by simp [results,Tryz.results51,go_sem,hp.cell 0,hp.cell 1]) rfl
  ⟨_,_,_,_,_,_,rfl,⟨_,Nat.le_refl _,(HN.out.setSi k0).setSi k1'⟩,⟨_,Nat.le_refl _,(HD.out.setSi k0).setSi k1'⟩,(hBw.setCell (by show w.heap.size≤w.heap.size + 1; omega) _).setCell (by show w.heap.size≤w.heap.size + 1; omega) _⟩
set_option maxHeartbeats 2000000 in
theorem of4_b (n d:Nat) (w:World) (hn:n < 18446744073709551616) (hd:d < 18446744073709551616) (hd0:0 < d):Calls Tryz.prog 31 #[.int .u64 (n:Int),.int .u64 (d:Int)] w (RetDB w (n / Nat.gcd n d) (d / Nat.gcd n d)):=by
 have hb:=b1 w (.cells #[.slice none 0 0,.slice none 0 0] 35)
 have hbk:=qbox w
 obtain ⟨W0,hW0⟩:∃ W0,w.alloc (.cells #[.slice none 0 0,.slice none 0 0] 35) = W0:=⟨_,rfl⟩
 rw [hW0] at hb hbk
 have HBK:=Lib.hid hbk
 have PN:=Lib.hid (pow_word hn)
 have PD:=Lib.hid (pow_word hd)
 clear hbk
 go_enter Tryz.func31,Tryz.ntmps31
 go_wp2_with fail
 refine (of_word n W0 hn).mono ?_
 rintro e w1 ⟨v1,rfl,hv1,hb1⟩
 obtain ⟨A1,n1,c1,rfl⟩:=hv1.shape
 have H1:=Lib.hid hv1
 clear hv1
 go_wp2_with fail
 refine (of_word d w1 hd).mono ?_
 rintro e w2 ⟨v2,rfl,hv2,hb2⟩
 obtain ⟨A2,n2,c2,rfl⟩:=hv2.shape
 have hB2:=hb1.trans (hb2.mono hb1.size)
 have hlow:=low_b A1 A2 n1 c1 n2 c2 n d _ _ w2 (H1.out.below hb2) hv2 PN.out PD.out hd0 (by omega)
 clear hv2 H1 hb1 hb2
 go_wp2_with fail
 refine hlow.mono ?_
 rintro e w3 ⟨B1,i1,e1,B2,i2,e2,rfl,⟨L1,hl1,hx⟩,⟨L2,hl2,hy⟩,hb3⟩
 have hB3:=hB2.trans (hb3.mono hB2.size)
 have hbk3:=HBK.out.below hB3 HBK.out.lt
 have k0:w3.cell? ⟨w.heap.size,0,none⟩ = some (.slice none 0 0):=hbk3.cell 0
 have k1:w3.cell? ⟨w.heap.size,1,none⟩ = some (.slice none 0 0):=hbk3.cell 1
 have f0:=hbk3.frozen 0
 have f1:=hbk3.frozen 1
 have hB2w:=(hb.trans (hB2.mono hb.size)).size
 have HX:=Lib.hid (num_lower hx (Nat.le_trans hB2w hl1))
 have HY:=Lib.hid (num_lower hy (Nat.le_trans hB2w hl2))
 have HBK3:=Lib.hid hbk3
 have hBw:=hb.trans (hB3.mono hb.size)
 clear hx hy hbk3 hb3 hlow hW0
 go_wp2_with fail
 have hp:=put_Q HBK3.out (.slice B1 i1 e1) (.slice B2 i2 e2)
 have k1':(w3.setCell ⟨w.heap.size,0,none⟩ (.slice B1 i1 e1)).cell? ⟨w.heap.size,1,none⟩ = some (.slice none 0 0):=(World.cell?_setCell_other _ _ _ _ (by intro e; injection e; omega)).trans k1
 exact bodyPost_ret (v:=.agg #[.slice B1 i1 e1,.slice B2 i2 e2]) (by simp [results,Tryz.results31,go_sem,hp.cell 0,hp.cell 1]) rfl
  ⟨_,_,_,_,_,_,rfl,⟨_,Nat.le_refl _,(HX.out.setSi k0).setSi k1'⟩,⟨_,Nat.le_refl _,(HY.out.setSi k0).setSi k1'⟩,(hBw.setCell (Nat.le_refl _) _).setCell (Nat.le_refl _) _⟩
set_option maxHeartbeats 2000000 in
theorem int4_b (n:Nat) (w:World) (hn:n < 18446744073709551616):Calls Tryz.prog 19 #[.int .u64 (n:Int)] w (RetDB w n 1):=by
 have hb:=b1 w (.cells #[.slice none 0 0,.slice none 0 0] 35)
 have hbk:=qbox w
 obtain ⟨W0,hW0⟩:∃ W0,w.alloc (.cells #[.slice none 0 0,.slice none 0 0] 35) = W0:=⟨_,rfl⟩
 rw [hW0] at hb hbk
 have HBK:=Lib.hid hbk
 clear hbk
 go_enter Tryz.func19,Tryz.ntmps19
 go_wp2_with fail
 refine (of_word n W0 hn).mono ?_
 rintro e w1 ⟨v1,rfl,hv1,hb1⟩
 obtain ⟨A1,n1,c1,rfl⟩:=hv1.shape
 have H1:=Lib.hid hv1
 clear hv1
 go_wp2_with fail
 refine (of_one w1).mono ?_
 rintro e w2 ⟨v2,rfl,hv2,hb2⟩
 obtain ⟨A2,n2,c2,rfl⟩:=hv2.shape
 have hB3:=hb1.trans (hb2.mono hb1.size)
 have hbk3:=HBK.out.below hB3 HBK.out.lt
 have k0:w2.cell? ⟨w.heap.size,0,none⟩ = some (.slice none 0 0):=hbk3.cell 0
 have k1:w2.cell? ⟨w.heap.size,1,none⟩ = some (.slice none 0 0):=hbk3.cell 1
 have f0:=hbk3.frozen 0
 have f1:=hbk3.frozen 1
 have HX:=Lib.hid (num_lower (H1.out.below hb2) hb.size)
 have HY:=Lib.hid (num_lower hv2 (Nat.le_trans hb.size hb1.size))
 have HBK3:=Lib.hid hbk3
 have hBw:=hb.trans (hB3.mono hb.size)
 clear hv2 hbk3 hb2 hb1 hW0
 go_wp2_with fail
 have hp:=put_Q HBK3.out (.slice A1 n1 c1) (.slice A2 n2 c2)
 have k1':(w2.setCell ⟨w.heap.size,0,none⟩ (.slice A1 n1 c1)).cell? ⟨w.heap.size,1,none⟩ = some (.slice none 0 0):=(World.cell?_setCell_other _ _ _ _ (by intro e; injection e; omega)).trans k1
 exact bodyPost_ret (v:=.agg #[.slice A1 n1 c1,.slice A2 n2 c2]) (by simp [results,Tryz.results19,go_sem,hp.cell 0,hp.cell 1]) rfl
  ⟨_,_,_,_,_,_,rfl,⟨_,Nat.le_refl _,(HX.out.setSi k0).setSi k1'⟩,⟨_,Nat.le_refl _,(HY.out.setSi k0).setSi k1'⟩,(hBw.setCell (Nat.le_refl _) _).setCell (Nat.le_refl _) _⟩
theorem us14_in {α:Type} [Inhabited α] {us:α→Bool} (hus:us default = false) {xs:List α} {i:Int} (h:us14 us xs i = true):∃ q:Nat,i = (q:Int)∧q < xs.length∧us (gt14 xs q) = true∧at14 us xs i = gt14 xs q:=by
 have h0:0≤i∧i < (xs.length:Int):=Classical.byContradiction (fun hn => by rw [us14_off hus hn] at h; cases h)
 obtain ⟨q,rfl⟩:∃ q:Nat,i = (q:Int):=⟨i.toNat,by omega⟩
 have hu:us (gt14 xs q) = true:=by have h2:=h; rwa [us14_nat] at h2
 exact ⟨q,rfl,by omega,hu,at14_nat hu⟩
set_option maxHeartbeats 4000000 in
theorem ris14 (v:Value) (S:Sv14) (i st wh:Int) (b:Bool) (w:World) (h:St14 w v S) (hbt:b = true↔us14 usH S.H i = true∧(at14 usH S.H i).s = st∧(at14 usH S.H i).f = wh) :
  Calls Tryz.prog 48 #[v,.int .i64 i,.int .i64 st,.int .i64 wh] w fun e w' => e = .returned (.bool b)∧Below w.heap.size w w':=by
 obtain ⟨A0,A1,A2,A3,A4,n0,n1,n2,n3,n4,c0,c1,c2,c3,c4,sq,rfl,hs⟩:=h
 have HX0:=Lib.hid (Bx14.new hs)
 obtain ⟨W1,hW1⟩:∃ W,w.alloc (.cells #[.slice A0 n0 c0,.slice A1 n1 c1,.slice A2 n2 c2,.slice A3 n3 c3,.slice A4 n4 c4,.int .i64 sq] 28) = W:=⟨_,rfl⟩
 rw [hW1] at HX0
 have q0:=HX0.out.x.cell 0
 have q1:=HX0.out.x.cell 1
 have q2:=HX0.out.x.cell 2
 have q3:=HX0.out.x.cell 3
 have q4:=HX0.out.x.cell 4
 have q5:=HX0.out.x.cell 5
 obtain ⟨bu,hbu⟩:∃ y,us14 usH S.H i = y:=⟨_,rfl⟩
 have HTH:=Lib.hid (rThread14 _ S i bu W1 HX0.out.st hbu)
 cases bu with
 | false =>
  obtain rfl:b = false:=bool14_of hbt (fun h => by have:=h.1; rw [hbu] at this; cases this)
  clear hbt hbu hs
  go_enter Tryz.func48,Tryz.ntmps48
  go_wp2_with fail
  refine HTH.out.mono ?_
  rintro e u ⟨rfl,hb⟩
  have HB2:=Lib.hid (HX0.out.step hb).b
  clear HTH hb
  go_wp2_with fail
  go_ret
  exact ⟨rfl,HB2.out⟩
 | true =>
  obtain ⟨q,rfl,hq,_,hat⟩:=us14_in def14H hbu
  rw [hat] at hbt
  obtain ⟨x,hx⟩:∃ x,gt14 S.H q = x:=⟨_,rfl⟩
  rw [hx] at hbt
  obtain ⟨xz,xf,xc,xq,xu⟩:=x
  have hb2:b = true↔xz = st∧xf = wh:=by rw [hbt]; simp [hbu]
  have HE:Hid (b = (xz == st && xf == wh)):=Lib.hid (by rw [Bool.eq_iff_iff,hb2]; simp)
  have HQ:=Lib.hid hq
  have HXE:=Lib.hid hx
  have hqn:q < n2:=by rw [← hs.l2]; exact hq
  clear hbt hbu hat hb2 hx hq hs
  go_enter Tryz.func48,Tryz.ntmps48
  go_wp2_with fail
  refine HTH.out.mono ?_
  rintro e u ⟨rfl,hb⟩
  have HX2:=Lib.hid (HX0.out.step hb)
  have hB2:=HX2.out.b
  have HB2:=Lib.hid hB2
  obtain ⟨a,of,hA,hab,hq⟩:=Lq.at_ len14H (by omega) HX2.out.s.r2 HQ.out
  subst hA
  rw [HXE.out] at hq
  have e0:u.cell? ⟨a,of + q * 5,none⟩ = some (.int .i64 xz):=hq 0 _ rfl
  have e1:u.cell? ⟨a,of + q * 5 + 1,none⟩ = some (.int .i64 xf):=hq 1 _ rfl
  have i0:(0:Int)≤(q:Int):=by omega
  have i1:(q:Int) < (n2:Int):=by omega
  have y2:=HX2.out.x.cell 2
  clear HTH hb hB2 hq hab
  by_cases hz:xz = st
  ·
   subst hz
   go_wp2_with fail
   go_ret
   exact ⟨by rw [HE.out]; simp,HB2.out⟩
  ·
   have HF:Hid ((xz == st) = false):=Lib.hid (by simpa using hz)
   go_wp2_with fail
   go_ret
   exact ⟨by rw [HE.out,HF.out]; first | rfl | (show Ending.returned (Value.bool (xz == st)) = _; rw [HF.out]; rfl),HB2.out⟩
set_option maxHeartbeats 4000000 in
theorem rqueues14 (v:Value) (S:Sv14) (k:Nat) (xz xf xc xq xu:Int) (b:Bool) (w:World) (h:St14 w v S) (hk:k < S.H.length) (hx:gt14 S.H k = ⟨xz,xf,xc,xq,xu⟩) (hok:xz = 4→us14 usH S.H xf = true) (hbt:b = true↔Queues14 S k ⟨xz,xf,xc,xq,xu⟩) :
  Calls Tryz.prog 49 #[v,.int .i64 (k:Int)] w fun e w' => e = .returned (.bool b)∧Below w.heap.size w w':=by
 obtain ⟨A0,A1,A2,A3,A4,n0,n1,n2,n3,n4,c0,c1,c2,c3,c4,sq,rfl,hs⟩:=h
 rw [hs.l2] at hk
 have hb:Below w.heap.size w (w.alloc (.cells #[.slice A0 n0 c0,.slice A1 n1 c1,.slice A2 n2 c2,.slice A3 n3 c3,.slice A4 n4 c4,.int .i64 sq] 28)):=(b1' w _)
 have hk0:Blk (w.alloc (.cells #[.slice A0 n0 c0,.slice A1 n1 c1,.slice A2 n2 c2,.slice A3 n3 c3,.slice A4 n4 c4,.int .i64 sq] 28)) (w.heap.size) 28 #[.slice A0 n0 c0,.slice A1 n1 c1,.slice A2 n2 c2,.slice A3 n3 c3,.slice A4 n4 c4,.int .i64 sq]:=by
  have h:=(Blk.new w 28 #[.slice A0 n0 c0,.slice A1 n1 c1,.slice A2 n2 c2,.slice A3 n3 c3,.slice A4 n4 c4,.int .i64 sq])
  exact h
 have hs0:=hs.step hb
 have hz0:(w.alloc (.cells #[.slice A0 n0 c0,.slice A1 n1 c1,.slice A2 n2 c2,.slice A3 n3 c3,.slice A4 n4 c4,.int .i64 sq] 28)).heap.size = w.heap.size + 1:=by simp
 obtain ⟨W0,hW0⟩:∃ W,(w.alloc (.cells #[.slice A0 n0 c0,.slice A1 n1 c1,.slice A2 n2 c2,.slice A3 n3 c3,.slice A4 n4 c4,.int .i64 sq] 28)) = W:=⟨_,rfl⟩
 rw [hW0] at hb hs0 hz0 hk0
 have hkl:k < S.H.length:=by rw [hs0.l2]; exact hk
 obtain ⟨a,of,hA,hab,hq⟩:=Lq.at_ len14H (by omega) hs0.r2 hkl
 subst hA
 rw [hx] at hq
 have e0:W0.cell? ⟨a,of + k * 5,none⟩ = some (.int .i64 xz):=hq 0 _ rfl
 have e1:W0.cell? ⟨a,of + k * 5 + 1,none⟩ = some (.int .i64 xf):=hq 1 _ rfl
 have e2:W0.cell? ⟨a,of + k * 5 + 2,none⟩ = some (.int .i64 xc):=hq 2 _ rfl
 have e3:W0.cell? ⟨a,of + k * 5 + 3,none⟩ = some (.int .i64 xq):=hq 3 _ rfl
 have e4:W0.cell? ⟨a,of + k * 5 + 4,none⟩ = some (.int .i64 xu):=hq 4 _ rfl
 have i0:(0:Int)≤(k:Int):=by omega
 have i1:(k:Int) < (n2:Int):=by omega
 have q2:=hk0.cell 2
 have hb2:=hb.alloc hb.size (.cells #[.int .i64 xz,.int .i64 xf,.int .i64 xc,.int .i64 xq,.int .i64 xu] 58)
 have hkx:=Blk.new W0 58 #[.int .i64 xz,.int .i64 xf,.int .i64 xc,.int .i64 xq,.int .i64 xu]
 have f0:=hkx.cell 0
 have f1:=hkx.cell 1
 have f2:=hkx.cell 2
 have f3:=hkx.cell 3
 have f4:=hkx.cell 4
 have hkb:=hk0.alloc (.cells #[.int .i64 xz,.int .i64 xf,.int .i64 xc,.int .i64 xq,.int .i64 xu] 58)
 have p2:=hkb.cell 2
 have HS:=Lib.hid (hs0.step (b1' W0 (.cells #[.int .i64 xz,.int .i64 xf,.int .i64 xc,.int .i64 xq,.int .i64 xu] 58)))
 have HB2:=Lib.hid hb2
 by_cases z4:xz = 4
 ·
  subst z4
  obtain ⟨q,rfl,hql,_,hat⟩:=us14_in def14H (hok rfl)
  obtain ⟨y,hy⟩:∃ y,gt14 S.H q = y:=⟨_,rfl⟩
  obtain ⟨yz,yf,yc,yq,yu⟩:=y
  have HE:Hid (b = (yc != (k:Int))):=Lib.hid (by rw [Bool.eq_iff_iff,hbt]; simp [Queues14,hat,hy])
  obtain ⟨a2,of2,hA2,_,hq2⟩:=Lq.at_ len14H (by omega) HS.out.r2 hql
  injection hA2 with hA2
  injection hA2 with ha2 ho2
  subst ha2 ho2
  rw [hy] at hq2
  have g2:(W0.alloc (.cells #[.int .i64 4,.int .i64 (q:Int),.int .i64 xc,.int .i64 xq,.int .i64 xu] 58)).cell? ⟨a,of + q * 5 + 2,none⟩ = some (.int .i64 yc):=hq2 2 _ rfl
  have j0:(0:Int)≤(q:Int):=by omega
  have j1:(q:Int) < (n2:Int):=by rw [HS.out.l2] at hql; omega
  clear hs hs0 hb hb2 hk0 hkb hkx hq hx hkl hz0 hbt hok hat hy hq2 hab hql
  go_enter Tryz.func49,Tryz.ntmps49
  go_wp2_with fail
  go_ret
  exact ⟨by rw [HE.out]; rfl,HB2.out⟩
 ·
  have HE:Hid (b = (xz == 6)):=Lib.hid (by rw [Bool.eq_iff_iff,hbt]; simp [Queues14,z4])
  clear hs hs0 hb hb2 hk0 hkb hkx hq hx hkl hz0 hbt hok hab
  go_enter Tryz.func49,Tryz.ntmps49
  go_wp2_with fail
  go_ret
  exact ⟨by rw [HE.out]; rfl,HB2.out⟩
theorem info14B:(Tryz.prog.info? 81).map (fun i => (i.zero,i.size,i.bytes)) = some (some (.agg #[.int .i64 0,.int .i64 0]),2,16):=by kernel_rfl
structure Br14 (w:World) (S:Sv14) (A0 A1 A2 A3 A4:Option Addr) (n0 n1 n2 n3 n4 c0 c1 c2 c3 c4:Nat) (sq:Int) (A:Option Addr) (m c:Nat) (l:List (Int × Int)) (W:World):Prop where
 b:Bx14 w S A0 A1 A2 A3 A4 n0 n1 n2 n3 n4 c0 c1 c2 c3 c4 sq W
 o:W.ownsRow (w.heap.size + 1) 81 2 (.slice A m c) m (acs l)
 l:l.length = m
theorem Br14.step {w:World} {S:Sv14} {A0 A1 A2 A3 A4:Option Addr} {n0 n1 n2 n3 n4 c0 c1 c2 c3 c4:Nat} {sq:Int} {A:Option Addr} {m c:Nat} {l:List (Int × Int)} {W W':World} (h:Br14 w S A0 A1 A2 A3 A4 n0 n1 n2 n3 n4 c0 c1 c2 c3 c4 sq A m c l W) (hb:Below W.heap.size W W'):Br14 w S A0 A1 A2 A3 A4 n0 n1 n2 n3 n4 c0 c1 c2 c3 c4 sq A m c l W' :=
 ⟨h.b.step hb,own12_keep2 h.o hb,h.l⟩
theorem Br14.congr {w:World} {S:Sv14} {A0 A1 A2 A3 A4:Option Addr} {n0 n1 n2 n3 n4 c0 c1 c2 c3 c4:Nat} {sq:Int} {A:Option Addr} {m c:Nat} {l l2:List (Int × Int)} {W:World} (h:Br14 w S A0 A1 A2 A3 A4 n0 n1 n2 n3 n4 c0 c1 c2 c3 c4 sq A m c l W) (e:l = l2):Br14 w S A0 A1 A2 A3 A4 n0 n1 n2 n3 n4 c0 c1 c2 c3 c4 sq A m c l2 W:=e ▸ h
theorem Br14.push {w:World} {S:Sv14} {A0 A1 A2 A3 A4:Option Addr} {n0 n1 n2 n3 n4 c0 c1 c2 c3 c4:Nat} {sq:Int} {A:Option Addr} {m c:Nat} {l:List (Int × Int)} {W:World} (hs:SA14 w S A0 A1 A2 A3 A4 n0 n1 n2 n3 n4 c0 c1 c2 c3 c4 sq) (h:Br14 w S A0 A1 A2 A3 A4 n0 n1 n2 n3 n4 c0 c1 c2 c3 c4 sq A m c l W) (x y:Int) (hm:m≤2000) :
  ∃ Az cz W2,(Builtin.append_ #[55,55] 55 #[.slice A m c,.slice (some ⟨W.heap.size,0,none⟩) 1 1]).run Tryz.prog (W.alloc (.cells #[.int .i64 x,.int .i64 y] 81)) = .ok (.slice Az (m + 1) cz) W2∧Br14 w S A0 A1 A2 A3 A4 n0 n1 n2 n3 n4 c0 c1 c2 c3 c4 sq Az (m + 1) cz (l ++ [(x,y)]) W2∧(∀ g t cs,Blk W g t cs→t≠81→Blk W2 g t cs):=by
 have hbz:=b1' W (.cells #[.int .i64 x,.int .i64 y] 81)
 have hkz:=Blk.new W 81 #[.int .i64 x,.int .i64 y]
 have h1:=h.step hbz
 have hsy:(W.alloc (.cells #[.int .i64 x,.int .i64 y] 81)).heap.size = W.heap.size + 1:=by simp
 have hkeep:∀ g t cs,Blk W g t cs→Blk (W.alloc (.cells #[.int .i64 x,.int .i64 y] 81)) g t cs:=fun g t cs hg => hg.alloc _
 obtain ⟨Y,hY⟩:∃ Y,W.alloc (.cells #[.int .i64 x,.int .i64 y] 81) = Y:=⟨_,rfl⟩
 rw [hY] at hbz hkz h1 hsy hkeep ⊢
 have hrv:Rv Y Y.heap.size (some ⟨W.heap.size,0,none⟩) [.int .i64 x,.int .i64 y]:=fun _ => ⟨W.heap.size,0,rfl,by omega,fun j v hj => by rw [Nat.zero_add,hkz.cell]; simpa using hj⟩
 have hxl:=h1.b.x.lt
 obtain ⟨Az,cz,W2,hrun,hown,hg⟩:=run_append_14 (P:=Tryz.prog) Y (w.heap.size + 1) 55 55 81 _ 2 16 Tryz.underlying55 info14B rfl (by omega) (by omega) _ m _ h1.o Y.heap.size (some ⟨W.heap.size,0,none⟩) [.int .i64 x,.int .i64 y] 1 1 rfl hrv (by simp [Value.oneCell']) (by omega) (by omega)
 have hB:Below w.heap.size w W2:=h1.b.b.grown hg h1.b.b.size (fun r hr => by have:=(h1.o.lt r hr).1; omega)
 refine ⟨Az,cz,W2,hrun,⟨⟨hB,h1.b.x.grown hg (fun e => by have:=(h1.o.lt _ e.symm).1; omega),hs.step hB⟩,?_,by simp [h.l]⟩,fun g t cs hb hne => (hkeep g t cs hb).grown hg (own14_blk h1.o (hkeep g t cs hb) hne)⟩
 rw [acs_append]
 exact hown
set_option maxHeartbeats 2000000 in
theorem rcoinArrows14 (v:Value) (S:Sv14) (w:World) (h:St14 w v S):Calls Tryz.prog 28 #[v] w (RetAq14 w (cArr14 S S.T.length)):=by
 obtain ⟨A0,A1,A2,A3,A4,n0,n1,n2,n3,n4,c0,c1,c2,c3,c4,sq,rfl,hs⟩:=h
 have HP:Hid (RetAq14 w (cArr14 S S.T.length) = fun e w' => ∃ A c,e = .returned (.slice A (cArr14 S n1).length c)∧Aq w' w'.heap.size A (cArr14 S n1)∧Below w.heap.size w w'):=Lib.hid (by rw [hs.l1]; rfl)
 have HX0:Hid (Br14 w S A0 A1 A2 A3 A4 n0 n1 n2 n3 n4 c0 c1 c2 c3 c4 sq none 0 0 (cArr14 S 0) (w.alloc (.cells #[.slice A0 n0 c0,.slice A1 n1 c1,.slice A2 n2 c2,.slice A3 n3 c3,.slice A4 n4 c4,.int .i64 sq] 28))):=Lib.hid ⟨Bx14.new hs,World.ownsRow_nil _ _ _ _,rfl⟩
 have HS:=Lib.hid hs
 have hnb:=hs.m1
 clear hs
 go_enter Tryz.func28,Tryz.ntmps28
 go_wp2_with fail
 go_loopw [3,4] (fun v i wr => ∃ (k:Nat) (A:Option Addr) (m c:Nat),v = .slice A m c∧i = .int .i64 (k:Int)∧k≤n1∧Hid (Br14 w S A0 A1 A2 A3 A4 n0 n1 n2 n3 n4 c0 c1 c2 c3 c4 sq A m c (cArr14 S k) wr)) (fun _ i _ => n1 - (intOf i).toNat)
 case atStart => exact ⟨0,none,0,0,rfl,rfl,by omega,HX0⟩
 case round =>
  obtain ⟨k,A,m,c,rfl,rfl,hk,HW⟩:=hrel
  have t0_:=HW.out.b.x.cell 1
  by_cases hkn:k < n1
  ·
   skip
   obtain ⟨a,of,hA,hab,hq⟩:=Lq.at_ len14T (by omega) HW.out.b.s.r1 (show k < S.T.length by rw [HW.out.b.s.l1]; omega)
   have HAE:=Lib.hid hA
   obtain ⟨x,hx⟩:∃ x,gt14 S.T k = x:=⟨_,rfl⟩
   rw [hx] at hq
   obtain ⟨xu,xc,xa,xk,xt,xo⟩:=x
   have e0:wr.cell? ⟨a,of + k * 6,none⟩ = some (.bool xu):=hq 0 _ rfl
   have e1:wr.cell? ⟨a,of + k * 6 + 1,none⟩ = some (.int .i64 xc):=hq 1 _ rfl
   have e2:wr.cell? ⟨a,of + k * 6 + 2,none⟩ = some (.int .i64 xa):=hq 2 _ rfl
   have e3:wr.cell? ⟨a,of + k * 6 + 3,none⟩ = some (.int .i64 xk):=hq 3 _ rfl
   have e4:wr.cell? ⟨a,of + k * 6 + 4,none⟩ = some (.int .i64 xt):=hq 4 _ rfl
   have e5:wr.cell? ⟨a,of + k * 6 + 5,none⟩ = some (.bool xo):=hq 5 _ rfl
   have i0:(0:Int)≤(k:Int):=by omega
   have i1:(k:Int) < (n1:Int):=by omega
   have HV:=Lib.hid (Br14.step HW.out (b1' wr (.cells #[.bool xu,.int .i64 xc,.int .i64 xa,.int .i64 xk,.int .i64 xt,.bool xo] 53)))
   have hv:=Blk.new wr 53 #[.bool xu,.int .i64 xc,.int .i64 xa,.int .i64 xk,.int .i64 xt,.bool xo]
   have v0:=hv.cell 0
   have v1:=hv.cell 1
   have v2:=hv.cell 2
   have v3:=hv.cell 3
   have v4:=hv.cell 4
   have v5:=hv.cell 5
   have HVB:=Lib.hid hv
   have HXE:=Lib.hid hx
   have p0:=HV.out.b.x.cell 0
   have p1:=HV.out.b.x.cell 1
   have p2:=HV.out.b.x.cell 2
   have p3:=HV.out.b.x.cell 3
   have p4:=HV.out.b.x.cell 4
   have p5:=HV.out.b.x.cell 5
   obtain ⟨X,hX⟩:∃ X,wr.alloc (.cells #[.bool xu,.int .i64 xc,.int .i64 xa,.int .i64 xk,.int .i64 xt,.bool xo] 53) = X:=⟨_,rfl⟩
   rw [hX] at HV HVB v0 v1 v2 v3 v4 v5 p0 p1 p2 p3 p4 p5
   clear hv hq hx hab
   subst hA
   have hmk:m≤k:=by rw [← HW.out.l]; exact cArr14_len S k
   cases xu with
   | false =>
    have HN:=Lib.hid (HV.out.congr (l2:=cArr14 S (k + 1)) (by rw [cArr14,HXE.out,if_neg (by simp),List.append_nil]))
    go_wp2_with fail
    go_roundw
    case rel => exact ⟨k + 1,A,m,c,rfl,by go_num,by omega,HN⟩
    case measure => simp [intOf]; omega
   | true =>
    by_cases k2:xk = 2
    ·
     subst k2
     have HE:Hid (cArr14 S (k + 1) = cArr14 S k ++ [(xc,xt)]):=Lib.hid (by rw [cArr14,HXE.out,if_pos (by simp)])
     obtain ⟨Az,cz,W2,hrun,har,hkp⟩:=HV.out.push HS.out xc xt (by omega)
     have vz:=(hkp _ _ _ HVB.out (by decide)).cell 0
     clear hkp
     have HRUN:=Lib.hid hrun
     have HAR:=Lib.hid (har.congr HE.out.symm)
     clear hrun har
     go_wp2_with (at_builtin; go_loud (refine wpList_append_14 _ rfl (.tmp 25) (.tmp 31) 55 rfl _ _ _ _ rfl rfl HRUN.out ?_))
     go_roundw
     case rel => exact ⟨k + 1,Az,m + 1,cz,rfl,by go_num,by omega,HAR⟩
     case measure => simp [intOf]; omega
    ·
     have HN:=Lib.hid (HV.out.congr (l2:=cArr14 S (k + 1)) (by rw [cArr14,HXE.out,if_neg (by simp [k2]),List.append_nil]))
     go_wp2_with fail
     go_roundw
     case rel => exact ⟨k + 1,A,m,c,rfl,by go_num,by omega,HN⟩
     case measure => simp [intOf]; omega
  ·
   obtain rfl:k = n1:=by omega
   have HL:=Lib.hid HW.out.l
   have h1:¬ (k:Int) < (k:Int):=by omega
   go_wp2_with fail
   go_ret
   rw [HP.out]
   exact ⟨A,c,by rw [HL.out]; rfl,aq14_own HW.out.o,HW.out.b.b⟩
set_option maxHeartbeats 2000000 in
theorem rthreadArrows14 (v:Value) (S:Sv14) (w:World) (h:St14 w v S) (hok:∀ j,j < S.H.length→(gt14 S.H j).s = 6→us14 usL S.L (gt14 S.H j).f = true):Calls Tryz.prog 29 #[v] w (RetAq14 w (tArr14 S S.H.length)):=by
 obtain ⟨A0,A1,A2,A3,A4,n0,n1,n2,n3,n4,c0,c1,c2,c3,c4,sq,rfl,hs⟩:=h
 have HP:Hid (RetAq14 w (tArr14 S S.H.length) = fun e w' => ∃ A c,e = .returned (.slice A (tArr14 S n2).length c)∧Aq w' w'.heap.size A (tArr14 S n2)∧Below w.heap.size w w'):=Lib.hid (by rw [hs.l2]; rfl)
 have HX0:Hid (Br14 w S A0 A1 A2 A3 A4 n0 n1 n2 n3 n4 c0 c1 c2 c3 c4 sq none 0 0 (tArr14 S 0) (w.alloc (.cells #[.slice A0 n0 c0,.slice A1 n1 c1,.slice A2 n2 c2,.slice A3 n3 c3,.slice A4 n4 c4,.int .i64 sq] 28))):=Lib.hid ⟨Bx14.new hs,World.ownsRow_nil _ _ _ _,rfl⟩
 have HS:=Lib.hid hs
 have hnb:=hs.m2
 have HOK:=Lib.hid hok
 have HLH:=Lib.hid hs.l2
 clear hs
 go_enter Tryz.func29,Tryz.ntmps29
 go_wp2_with fail
 go_loopw [3,4] (fun v i wr => ∃ (k:Nat) (A:Option Addr) (m c:Nat),v = .slice A m c∧i = .int .i64 (k:Int)∧k≤n2∧Hid (Br14 w S A0 A1 A2 A3 A4 n0 n1 n2 n3 n4 c0 c1 c2 c3 c4 sq A m c (tArr14 S k) wr)) (fun _ i _ => n2 - (intOf i).toNat)
 case atStart => exact ⟨0,none,0,0,rfl,rfl,by omega,HX0⟩
 case round =>
  obtain ⟨k,A,m,c,rfl,rfl,hk,HW⟩:=hrel
  have t0_:=HW.out.b.x.cell 2
  by_cases hkn:k < n2
  ·
   skip
   obtain ⟨a,of,hA,hab,hq⟩:=Lq.at_ len14H (by omega) HW.out.b.s.r2 (show k < S.H.length by rw [HW.out.b.s.l2]; omega)
   have HAE:=Lib.hid hA
   obtain ⟨x,hx⟩:∃ x,gt14 S.H k = x:=⟨_,rfl⟩
   rw [hx] at hq
   obtain ⟨xz,xf,xc,xq,xu⟩:=x
   have e0:wr.cell? ⟨a,of + k * 5,none⟩ = some (.int .i64 xz):=hq 0 _ rfl
   have e1:wr.cell? ⟨a,of + k * 5 + 1,none⟩ = some (.int .i64 xf):=hq 1 _ rfl
   have e2:wr.cell? ⟨a,of + k * 5 + 2,none⟩ = some (.int .i64 xc):=hq 2 _ rfl
   have e3:wr.cell? ⟨a,of + k * 5 + 3,none⟩ = some (.int .i64 xq):=hq 3 _ rfl
   have e4:wr.cell? ⟨a,of + k * 5 + 4,none⟩ = some (.int .i64 xu):=hq 4 _ rfl
   have i0:(0:Int)≤(k:Int):=by omega
   have i1:(k:Int) < (n2:Int):=by omega
   have HV:=Lib.hid (Br14.step HW.out (b1' wr (.cells #[.int .i64 xz,.int .i64 xf,.int .i64 xc,.int .i64 xq,.int .i64 xu] 58)))
   have hv:=Blk.new wr 58 #[.int .i64 xz,.int .i64 xf,.int .i64 xc,.int .i64 xq,.int .i64 xu]
   have v0:=hv.cell 0
   have v1:=hv.cell 1
   have v2:=hv.cell 2
   have v3:=hv.cell 3
   have v4:=hv.cell 4
   have HVB:=Lib.hid hv
   have HXE:=Lib.hid hx
   have p0:=HV.out.b.x.cell 0
   have p1:=HV.out.b.x.cell 1
   have p2:=HV.out.b.x.cell 2
   have p3:=HV.out.b.x.cell 3
   have p4:=HV.out.b.x.cell 4
   have p5:=HV.out.b.x.cell 5
   obtain ⟨X,hX⟩:∃ X,wr.alloc (.cells #[.int .i64 xz,.int .i64 xf,.int .i64 xc,.int .i64 xq,.int .i64 xu] 58) = X:=⟨_,rfl⟩
   rw [hX] at HV HVB v0 v1 v2 v3 v4 p0 p1 p2 p3 p4 p5
   clear hv hq hx hab
   subst hA
   have hmk:m≤k:=by rw [← HW.out.l]; exact tArr14_len S k
   by_cases z4:xz = 4
   ·
    subst z4
    have HE:Hid (tArr14 S (k + 1) = tArr14 S k ++ [((k:Int),xf)]):=Lib.hid (by rw [tArr14,HXE.out,if_pos rfl])
    obtain ⟨Az,cz,W2,hrun,har,hkp⟩:=HV.out.push HS.out (k:Int) xf (by omega)
    have vz:=(hkp _ _ _ HVB.out (by decide)).cell 0
    clear hkp
    have HRUN:=Lib.hid hrun
    have HAR:=Lib.hid (har.congr HE.out.symm)
    clear hrun har
    go_wp2_with (at_builtin; go_loud (refine wpList_append_14 _ rfl (.tmp 21) (.tmp 26) 55 rfl _ _ _ _ rfl rfl HRUN.out ?_))
    go_roundw
    case rel => exact ⟨k + 1,Az,m + 1,cz,rfl,by go_num,by omega,HAR⟩
    case measure => simp [intOf]; omega
   ·
    by_cases z6:xz = 6
    ·
     subst z6
     obtain ⟨q,hxq,hql,_,hat⟩:=us14_in def14L (by have h:=HOK.out k (by rw [HLH.out]; exact hkn) (by rw [HXE.out]); rwa [HXE.out] at h:us14 usL S.L xf = true)
     subst hxq
     obtain ⟨y,hy⟩:∃ y,gt14 S.L q = y:=⟨_,rfl⟩
     obtain ⟨yu,yh⟩:=y
     have HE:Hid (tArr14 S (k + 1) = tArr14 S k ++ [((k:Int),yh)]):=Lib.hid (by rw [tArr14,HXE.out,if_neg (by simp),if_pos rfl,hat,hy])
     obtain ⟨a3,of3,hA3,_,hq3⟩:=Lq.at_ len14L (by omega) HV.out.b.s.r3 hql
     subst hA3
     rw [hy] at hq3
     have g1:X.cell? ⟨a3,of3 + q * 2 + 1,none⟩ = some (.int .i64 yh):=hq3 1 _ rfl
     have j0:(0:Int)≤(q:Int):=by omega
     have j1:(q:Int) < (n3:Int):=by rw [HV.out.b.s.l3] at hql; omega
     clear hat hy hq3 hql
     obtain ⟨Az,cz,W2,hrun,har,hkp⟩:=HV.out.push HS.out (k:Int) yh (by omega)
     have vz:=(hkp _ _ _ HVB.out (by decide)).cell 0
     clear hkp
     have HRUN:=Lib.hid hrun
     have HAR:=Lib.hid (har.congr HE.out.symm)
     clear hrun har
     go_wp2_with (at_builtin; go_loud (refine wpList_append_14 _ rfl (.tmp 31) (.tmp 41) 55 rfl _ _ _ _ rfl rfl HRUN.out ?_))
     go_roundw
     case rel => exact ⟨k + 1,Az,m + 1,cz,rfl,by go_num,by omega,HAR⟩
     case measure => simp [intOf]; omega
    ·
     have HN:=Lib.hid (HV.out.congr (l2:=tArr14 S (k + 1)) (by rw [tArr14,HXE.out,if_neg z4,if_neg z6,List.append_nil]))
     go_wp2_with fail
     go_roundw
     case rel => exact ⟨k + 1,A,m,c,rfl,by go_num,by omega,HN⟩
     case measure => simp [intOf]; omega
  ·
   obtain rfl:k = n2:=by omega
   have HL:=Lib.hid HW.out.l
   have h1:¬ (k:Int) < (k:Int):=by omega
   go_wp2_with fail
   go_ret
   rw [HP.out]
   exact ⟨A,c,by rw [HL.out]; rfl,aq14_own HW.out.o,HW.out.b.b⟩
theorem fine16_lock {S:Sv14} (hf:Fine14 S):∀ j,j < S.H.length→(gt14 S.H j).s = 6→us14 usL S.L (gt14 S.H j).f = true:=by
 intro j hj h6
 have hth:=(hf.2.2.2.2.2.1.1 j hj (by rw [usH,h6]; rfl)).1
 rcases hth with h | h | h
 · rw [h.1] at h6; cases h6
 · exact h.2
 · have:=h.1; omega
theorem arr16_mem {l:List (Int × Int)} {k:Nat} (hk:k < l.length):arr l k∈l:=by
 have e:arr l k = l[k]:=by simp [arr,List.getElem?_eq_getElem hk]
 rw [e]
 exact List.getElem_mem hk
theorem fnx16 {S:Sv14} {k:Nat} {i:Int} (hk:k < (tArr14 S S.H.length).length) (h:(arr (tArr14 S S.H.length) k).1 = i):(arr (tArr14 S S.H.length) k).2 = nxt16 S i:=by
 have h1:(i,(arr (tArr14 S S.H.length) k).2)∈tArr14 S S.H.length:=by
  rw [← h]
  exact arr16_mem hk
 obtain ⟨j,hj,rfl,_⟩:=tarr16_mem.1 h1
 exact ((nxt16_arr hj).1 h1).2.symm
theorem fnx16_no {S:Sv14} {i:Int} (hf:Fine14 S) (h:∀ k,k < (tArr14 S S.H.length).length→(arr (tArr14 S S.H.length) k).1≠i):nxt16 S i = -1:=by
 rcases nxt16_used hf i with h1 | ⟨h1,h2⟩
 · exact h1
 ·
  exfalso
  have hu:us14 usH S.H i = true:=by
   cases hu:us14 usH S.H i with
   | true => rfl
   | false => rw [nxt16_no hu,tl16_neg] at h1; cases h1
  have hin:=ush16_lt hu
  obtain ⟨q,rfl⟩:∃ q:Nat,i = (q:Int):=⟨i.toNat,by omega⟩
  rw [at14_yes hu,Int.toNat_natCast] at h2
  have hm:((q:Int),nxt16 S (q:Int))∈tArr14 S S.H.length:=(nxt16_arr (by omega)).2 ⟨h2,rfl⟩
  obtain ⟨k,hk,he⟩:=List.getElem_of_mem hm
  refine h k hk ?_
  have e:arr (tArr14 S S.H.length) k = (tArr14 S S.H.length)[k]:=by simp [arr,List.getElem?_eq_getElem hk]
  rw [e,he]
set_option maxHeartbeats 4000000 in
theorem rnext16 (v:Value) (S:Sv14) (i:Int) (w:World) (h:St14 w v S) (hf:Fine14 S) :
  Calls Tryz.prog 117 #[v,.int .i64 i] w fun e w' => e = .returned (.int .i64 (nxt16 S i))∧Below w.heap.size w w':=by
 obtain ⟨A0,A1,A2,A3,A4,n0,n1,n2,n3,n4,c0,c1,c2,c3,c4,sq,rfl,hs⟩:=h
 have hx0:=Bx14.new hs
 have hxn:=hx0.step (Below.refl _ _).drew
 obtain ⟨W1,hW1⟩:∃ W,w.alloc (.cells #[.slice A0 n0 c0,.slice A1 n1 c1,.slice A2 n2 c2,.slice A3 n3 c3,.slice A4 n4 c4,.int .i64 sq] 28) = W:=⟨_,rfl⟩
 rw [hW1] at hx0 hxn
 have HX0:=Lib.hid hx0
 have p0:=hx0.x.cell 0
 have p1:=hx0.x.cell 1
 have p2:=hx0.x.cell 2
 have p3:=hx0.x.cell 3
 have p4:=hx0.x.cell 4
 have p5:=hx0.x.cell 5
 obtain ⟨m,hm⟩:∃ m,(tArr14 S S.H.length).length = m:=⟨_,rfl⟩
 have hmn:m≤1000000:=by have:=tArr14_len S S.H.length; have:=hs.l2; have:=hs.m2; omega
 have HT:=Lib.hid (fun W h => rthreadArrows14 (.agg #[.slice A0 n0 c0,.slice A1 n1 c1,.slice A2 n2 c2,.slice A3 n3 c3,.slice A4 n4 c4,.int .i64 sq]) S W h (fine16_lock hf))
 have HF:=Lib.hid hf
 have HM:=Lib.hid hm
 clear hs hx0 hxn hf hm
 go_enter Tryz.func117,Tryz.ntmps117
 go_wp2_with fail
 refine (HT.out _ HX0.out.st).mono ?_
 rintro e u1 ⟨A,c,rfl,hr,hb1⟩
 have HR:=Lib.hid hr
 have HB1:=Lib.hid (HX0.out.b.trans (hb1.mono HX0.out.b.size))
 rw [HM.out]
 clear hb1 HT HX0 p0 p1 p2 p3 p4 p5 hW1 hr
 go_wp2_with fail
 go_loopw [6] (fun v wr => ∃ k:Nat,v = .int .i64 (k:Int)∧k≤m∧Hid (∀ q,q < k→(arr (tArr14 S S.H.length) q).1≠i)∧Hid (Below u1.heap.size u1 wr)) (fun v _ => m - (intOf v).toNat)
 case atStart => exact ⟨0,rfl,by omega,Lib.hid (fun q h => by omega),Lib.hid (Below.refl _ _)⟩
 case round =>
  obtain ⟨k,rfl,hk,HN,HG⟩:=hrel
  by_cases hkm:k < m
  ·
   obtain ⟨ba,o,hA,hab,c0,c1⟩:=Aq.at_ (Rv.below HR.out HG.out (Nat.le_refl _)) (show k < (tArr14 S S.H.length).length by rw [HM.out]; exact hkm)
   subst hA
   obtain ⟨fi,hfi⟩:∃ x,(arr (tArr14 S S.H.length) k).1 = x:=⟨_,rfl⟩
   obtain ⟨ti,hti⟩:∃ x,(arr (tArr14 S S.H.length) k).2 = x:=⟨_,rfl⟩
   have HI:=Lib.hid hfi
   have HJ:=Lib.hid hti
   rw [hfi] at c0
   rw [hti] at c1
   have i0:(0:Int)≤(k:Int):=by omega
   have i1:(k:Int) < (m:Int):=by omega
   clear hfi hti hab
   by_cases hi:fi = i
   ·
    have hib:(fi == i) = true:=by simp [hi]
    have HE:Hid (nxt16 S i = ti):=Lib.hid (by rw [← HJ.out]; exact (fnx16 (by rw [HM.out]; exact hkm) (by rw [HI.out]; exact hi)).symm)
    clear hi
    go_wp2_with fail
    go_ret
    exact ⟨by rw [HE.out]; rfl,HB1.out.trans (HG.out.mono HB1.out.size)⟩
   ·
    have hib:(fi == i) = false:=by simp [hi]
    have HNI:=Lib.hid hi
    clear hi
    go_wp2_with fail
    go_roundw
    case rel => exact ⟨k + 1,by go_num,by omega,Lib.hid (fun q hq => by
     rcases (show q < k∨q = k by omega) with h5 | h5
     · exact HN.out q h5
     · rw [h5,HI.out]; exact HNI.out),HG⟩
    case measure => simp [intOf]; omega
  ·
   obtain rfl:k = m:=by omega
   have i1:¬ (k:Int) < (k:Int):=by omega
   have HE:Hid (nxt16 S i = -1):=Lib.hid (fnx16_no HF.out (by rw [HM.out]; exact HN.out))
   go_wp2_with fail
   go_ret
   exact ⟨by rw [HE.out]; rfl,HB1.out.trans (HG.out.mono HB1.out.size)⟩
theorem one16_own (W:World) (L:Nat) (x:Nat) (hL:L≤W.heap.size):(W.alloc (.cells #[.int .i64 (x:Int)] 3)).ownsRow L 3 1 (.slice (some ⟨W.heap.size,0,none⟩) 1 1) 1 (ints [x]) :=
 ⟨by simp [ints],.inr ⟨W.heap.size,1,#[.int .i64 (x:Int)],rfl,hL,heap_alloc_new W _,by omega,by decide,by simp,by simp [ints]⟩⟩
set_option maxHeartbeats 4000000 in
theorem rtail16 (l:List Nat):∀ (v:Value) (S:Sv14) (i:Int) (w:World) (_:St14 w v S) (_:Fine14 S) (_:Tl16 S i l),
  Calls Tryz.prog 101 #[v,.int .i64 i] w (RetR15 w l):=by
 induction l with
 | nil =>
  intro v S i w h hf hl
  obtain ⟨A0,A1,A2,A3,A4,n0,n1,n2,n3,n4,c0,c1,c2,c3,c4,sq,rfl,hs⟩:=h
  have hx0:=Bx14.new hs
  have hxn:=hx0.step (Below.refl _ _).drew
  obtain ⟨W1,hW1⟩:∃ W,w.alloc (.cells #[.slice A0 n0 c0,.slice A1 n1 c1,.slice A2 n2 c2,.slice A3 n3 c3,.slice A4 n4 c4,.int .i64 sq] 28) = W:=⟨_,rfl⟩
  rw [hW1] at hx0 hxn
  have HP:Hid (RetR15 w [] = fun e w' => ∃ A c,e = .returned (.slice A 0 c)∧Rd w' w'.heap.size A []∧Below w.heap.size w w'):=Lib.hid rfl
  have HX0:=Lib.hid hx0
  have p0:=hx0.x.cell 0
  have p1:=hx0.x.cell 1
  have p2:=hx0.x.cell 2
  have p3:=hx0.x.cell 3
  have p4:=hx0.x.cell 4
  have p5:=hx0.x.cell 5
  have HU:=Lib.hid (fun W h => rThread14 (.agg #[.slice A0 n0 c0,.slice A1 n1 c1,.slice A2 n2 c2,.slice A3 n3 c3,.slice A4 n4 c4,.int .i64 sq]) S i false W h (hl.nil.1 rfl))
  clear hs hx0 hxn hf hl
  go_enter Tryz.func101,Tryz.ntmps101
  go_wp2_with fail
  refine (HU.out _ HX0.out.st).mono ?_
  rintro e u1 ⟨rfl,hb1⟩
  have HB1:=Lib.hid (HX0.out.b.trans (hb1.mono HX0.out.b.size))
  clear hb1 HU HX0 p0 p1 p2 p3 p4 p5 hW1
  go_wp2_with fail
  go_ret
  rw [HP.out]
  exact ⟨none,0,rfl,fun hx => absurd rfl hx,HB1.out⟩
 | cons k r ih =>
  intro v S i w h hf hl
  obtain ⟨A0,A1,A2,A3,A4,n0,n1,n2,n3,n4,c0,c1,c2,c3,c4,sq,rfl,hs⟩:=h
  have hx0:=Bx14.new hs
  have hxn:=hx0.step (Below.refl _ _).drew
  obtain ⟨W1,hW1⟩:∃ W,w.alloc (.cells #[.slice A0 n0 c0,.slice A1 n1 c1,.slice A2 n2 c2,.slice A3 n3 c3,.slice A4 n4 c4,.int .i64 sq] 28) = W:=⟨_,rfl⟩
  rw [hW1] at hx0 hxn
  have HP:Hid (RetR15 w (k :: r) = fun e w' => ∃ A c,e = .returned (.slice A (r.length + 1) c)∧Rd w' w'.heap.size A (k :: r)∧Below w.heap.size w w'):=Lib.hid rfl
  have HX0:=Lib.hid hx0
  have p0:=hx0.x.cell 0
  have p1:=hx0.x.cell 1
  have p2:=hx0.x.cell 2
  have p3:=hx0.x.cell 3
  have p4:=hx0.x.cell 4
  have p5:=hx0.x.cell 5
  have hu:us14 usH S.H i = true:=by
   cases hu:us14 usH S.H i with
   | true => rfl
   | false => cases hl.no hu
  obtain ⟨k2,r2,hik,he,ht⟩:=hl.cons hf hu
  injection he with hk hr
  subst hk hr hik
  have HU:=Lib.hid (fun W h => rThread14 (.agg #[.slice A0 n0 c0,.slice A1 n1 c1,.slice A2 n2 c2,.slice A3 n3 c3,.slice A4 n4 c4,.int .i64 sq]) S (k:Int) true W h hu)
  have HN:=Lib.hid (fun W h => rnext16 (.agg #[.slice A0 n0 c0,.slice A1 n1 c1,.slice A2 n2 c2,.slice A3 n3 c3,.slice A4 n4 c4,.int .i64 sq]) S (k:Int) W h hf)
  have HI:=Lib.hid (fun W h => ih (.agg #[.slice A0 n0 c0,.slice A1 n1 c1,.slice A2 n2 c2,.slice A3 n3 c3,.slice A4 n4 c4,.int .i64 sq]) S (nxt16 S (k:Int)) W h hf ht)
  have HLN:Hid (r.length≤1000):=Lib.hid (by have:=hl.len hf; have:=hs.l2; have:=hs.m2; simp at *; omega)
  have HT:=Lib.hid ht
  have hnu:=nxt16_used hf (k:Int)
  clear hs hx0 hxn hf hl ih hu ht
  go_enter Tryz.func101,Tryz.ntmps101
  go_wp2_with fail
  refine (HU.out _ HX0.out.st).mono ?_
  rintro e u1 ⟨rfl,hb1⟩
  have HX1:=Lib.hid (HX0.out.step hb1)
  have q0:=HX1.out.x.cell 0
  have q1:=HX1.out.x.cell 1
  have q2:=HX1.out.x.cell 2
  have q3:=HX1.out.x.cell 3
  have q4:=HX1.out.x.cell 4
  have q5:=HX1.out.x.cell 5
  clear hb1 HU HX0 p0 p1 p2 p3 p4 p5 hW1
  go_wp2_with fail
  refine (HN.out _ HX1.out.st).mono ?_
  rintro e u2 ⟨rfl,hb2⟩
  have HX2:=Lib.hid (HX1.out.step hb2)
  have y0:=HX2.out.x.cell 0
  have y1:=HX2.out.x.cell 1
  have y2:=HX2.out.x.cell 2
  have y3:=HX2.out.x.cell 3
  have y4:=HX2.out.x.cell 4
  have y5:=HX2.out.x.cell 5
  clear hb2 HN HX1 q0 q1 q2 q3 q4 q5
  obtain ⟨nx,hnx⟩:∃ x,nxt16 S (k:Int) = x:=⟨_,rfl⟩
  rw [hnx] at HT HI hnu ⊢
  clear hnx
  rcases hnu with h0 | h0
  ·
   subst h0
   have HE:Hid (r = []):=Lib.hid (HT.out.no (tl16_neg S))
   have hb3:=b1' u2 (.cells #[.int .i64 (k:Int)] 3)
   have HR:Hid (Rd (u2.alloc (.cells #[.int .i64 (k:Int)] 3)) (u2.alloc (.cells #[.int .i64 (k:Int)] 3)).heap.size (some ⟨u2.heap.size,0,none⟩) [k]):=Lib.hid (rd15_own (one16_own u2 0 k (by omega)) rfl)
   have HB3:=Lib.hid (HX2.out.b.trans (hb3.mono HX2.out.b.size))
   clear hb3
   go_wp2_with fail
   go_ret
   rw [HP.out,HE.out]
   exact ⟨_,1,rfl,HR.out,HB3.out⟩
  ·
   have hge:0≤nx:=(ush16_lt h0.1).1
   have hlt:¬ nx < 0:=by omega
   have hb3:=b1' u2 (.cells #[.int .i64 (k:Int)] 3)
   have HX3:=Lib.hid (HX2.out.step hb3)
   have HO:=Lib.hid (one16_own u2 (w.heap.size + 1) k (by have:=HX2.out.x.lt; omega))
   have z0:=HX3.out.x.cell 0
   have z1:=HX3.out.x.cell 1
   have z2:=HX3.out.x.cell 2
   have z3:=HX3.out.x.cell 3
   have z4:=HX3.out.x.cell 4
   have z5:=HX3.out.x.cell 5
   obtain ⟨g,hg⟩:∃ g,u2.heap.size = g:=⟨_,rfl⟩
   obtain ⟨u3,hu3⟩:∃ W,u2.alloc (.cells #[.int .i64 (k:Int)] 3) = W:=⟨_,rfl⟩
   rw [hu3] at HX3 HO z0 z1 z2 z3 z4 z5
   rw [hg] at HO
   clear h0 hge hb3 y0 y1 y2 y3 y4 y5
   go_wp2_with fail
   refine (HI.out _ HX3.out.st).mono ?_
   rintro e u4 ⟨A,c,rfl,hr,hb4⟩
   have HX4:=Lib.hid (HX3.out.step hb4)
   have ho4:=own7_keep HO.out hb4
   have hsz:=HX4.out.x.lt
   obtain ⟨Az,cz,W2,hrun,hown,hgr⟩:=run_append_14 (P:=Tryz.prog) u4 (w.heap.size + 1) 26 26 3 _ 1 8 Tryz.underlying26 info_int11 rfl (by omega) (by omega) _ 1 _ ho4 u4.heap.size A (ints r) r.length c (by simp [ints]) hr.rv11 (ints_one r) (by have:=HLN.out; omega) (by omega)
   have hW2:Below (w.heap.size + 1) u4 W2:=(Below.refl _ _).grown hgr (by omega) (fun q hq => (ho4.lt q hq).1)
   have HB2:=Lib.hid (HX4.out.b.trans (hW2.mono (by omega)))
   rw [Nat.add_comm 1 r.length] at hrun hown
   rw [← ints_append,List.singleton_append] at hown
   have HRD:=Lib.hid (rd15_own hown (by simp))
   have HRUN:=Lib.hid hrun
   clear hb4 HI hr ho4 hsz hrun hown hgr hW2 HX3 HX4 HO z0 z1 z2 z3 z4 z5
   go_wp2_with (at_builtin; go_loud (refine wpList_append_14 _ rfl (.tmp 18) (.tmp 21) 26 rfl _ _ _ _ rfl rfl HRUN.out ?_))
   go_ret
   rw [HP.out]
   exact ⟨Az,cz,rfl,HRD.out,HB2.out⟩
set_option maxHeartbeats 4000000 in
theorem rend16 (v:Value) (S:Sv14) (i:Int) (l:List Nat) (w:World) (h:St14 w v S) (hf:Fine14 S) (hl:Tl16 S i l) :
  Calls Tryz.prog 77 #[v,.int .i64 i] w fun e w' => e = .returned (.int .i64 (en16 l))∧Below w.heap.size w w':=by
 obtain ⟨A0,A1,A2,A3,A4,n0,n1,n2,n3,n4,c0,c1,c2,c3,c4,sq,rfl,hs⟩:=h
 have hx0:=Bx14.new hs
 have hxn:=hx0.step (Below.refl _ _).drew
 obtain ⟨W1,hW1⟩:∃ W,w.alloc (.cells #[.slice A0 n0 c0,.slice A1 n1 c1,.slice A2 n2 c2,.slice A3 n3 c3,.slice A4 n4 c4,.int .i64 sq] 28) = W:=⟨_,rfl⟩
 rw [hW1] at hx0 hxn
 have HX0:=Lib.hid hx0
 have p0:=hx0.x.cell 0
 have p1:=hx0.x.cell 1
 have p2:=hx0.x.cell 2
 have p3:=hx0.x.cell 3
 have p4:=hx0.x.cell 4
 have p5:=hx0.x.cell 5
 have HLN:Hid (l.length≤1000000):=Lib.hid (by have:=hl.len hf; have:=hs.l2; have:=hs.m2; omega)
 have HT:=Lib.hid (fun W h => rtail16 l (.agg #[.slice A0 n0 c0,.slice A1 n1 c1,.slice A2 n2 c2,.slice A3 n3 c3,.slice A4 n4 c4,.int .i64 sq]) S i W h hf hl)
 clear hs hx0 hxn hf hl
 go_enter Tryz.func77,Tryz.ntmps77
 go_wp2_with fail
 refine (HT.out _ HX0.out.st).mono ?_
 rintro e u1 ⟨A,c,rfl,hr,hb1⟩
 have HB1:=Lib.hid (HX0.out.b.trans (hb1.mono HX0.out.b.size))
 clear hb1 HT HX0 p0 p1 p2 p3 p4 p5 hW1
 by_cases hl0:l = []
 ·
  subst hl0
  have HE:Hid (en16 [] = -1):=Lib.hid rfl
  clear hr
  go_wp2_with fail
  go_ret
  exact ⟨by rw [HE.out]; rfl,HB1.out⟩
 ·
  obtain ⟨d,hd⟩:∃ d,l.length = d + 1:=⟨l.length - 1,by have:=List.length_pos_iff.2 hl0; omega⟩
  obtain ⟨a,of,hA,hab,hq⟩:=hr.at_ (show d < l.length by omega)
  subst hA
  have HE:Hid (en16 l = ((nth l d:Nat):Int)):=Lib.hid (by rw [en16,if_neg hl0,lst16,hd]; rfl)
  have hnz:(((d + 1:Nat):Int) == 0) = false:=by simp; omega
  have hdm:d + 1≤1000000:=by have:=HLN.out; omega
  rw [hd]
  clear hr hab hd hl0
  have i0:(0:Int)≤(d:Int):=by omega
  have i1:(d:Int) < ((d + 1:Nat):Int):=by omega
  have hsb:((d + 1:Nat):Int) - 1 = (d:Int):=by omega
  go_wp2_with fail
  go_ret
  exact ⟨by rw [HE.out]; rfl,HB1.out⟩
set_option maxHeartbeats 4000000 in
theorem rlives16 (v:Value) (S:Sv14) (i:Int) (l:List Nat) (w:World) (h:St14 w v S) (hf:Fine14 S) (hl:Tl16 S i l) :
  Calls Tryz.prog 54 #[v,.int .i64 i] w fun e w' => e = .returned (.bool (lv16 S (en16 l)))∧Below w.heap.size w w':=by
 obtain ⟨A0,A1,A2,A3,A4,n0,n1,n2,n3,n4,c0,c1,c2,c3,c4,sq,rfl,hs⟩:=h
 have hx0:=Bx14.new hs
 have hxn:=hx0.step (Below.refl _ _).drew
 obtain ⟨W1,hW1⟩:∃ W,w.alloc (.cells #[.slice A0 n0 c0,.slice A1 n1 c1,.slice A2 n2 c2,.slice A3 n3 c3,.slice A4 n4 c4,.int .i64 sq] 28) = W:=⟨_,rfl⟩
 rw [hW1] at hx0 hxn
 have HX0:=Lib.hid hx0
 have p0:=hx0.x.cell 0
 have p1:=hx0.x.cell 1
 have p2:=hx0.x.cell 2
 have p3:=hx0.x.cell 3
 have p4:=hx0.x.cell 4
 have p5:=hx0.x.cell 5
 have hus:=en16_used hf hl
 have HT:=Lib.hid (fun W h => rend16 (.agg #[.slice A0 n0 c0,.slice A1 n1 c1,.slice A2 n2 c2,.slice A3 n3 c3,.slice A4 n4 c4,.int .i64 sq]) S i l W h hf hl)
 obtain ⟨en,hen⟩:∃ x,en16 l = x:=⟨_,rfl⟩
 rw [hen] at hus HT ⊢
 have HL2:=Lib.hid hs.l2
 have hnm:n2≤1000:=by have:=hs.m2; omega
 have hge:en < 0→en = -1:=by
  intro h
  cases hu:us14 usH S.H i with
  | false => rw [← hen]; exact en16_no (hl.no hu)
  | true => rw [hu] at hus; have:=ush16_lt hus; omega
 have hu1:0≤en→us14 usH S.H en = true:=by
  intro h
  cases hu:us14 usH S.H i with
  | true => rw [hus,hu]
  | false => rw [← hen,en16_no (hl.no hu)] at h; omega
 clear hs hx0 hxn hf hl hus hen
 go_enter Tryz.func54,Tryz.ntmps54
 go_wp2_with fail
 refine (HT.out _ HX0.out.st).mono ?_
 rintro e u1 ⟨rfl,hb1⟩
 have HX1:=Lib.hid (HX0.out.step hb1)
 have q0:=HX1.out.x.cell 0
 have q1:=HX1.out.x.cell 1
 have q2:=HX1.out.x.cell 2
 have q3:=HX1.out.x.cell 3
 have q4:=HX1.out.x.cell 4
 have q5:=HX1.out.x.cell 5
 clear hb1 HT HX0 p0 p1 p2 p3 p4 p5 hW1
 by_cases h0:0≤en
 ·
  have hu:=hu1 h0
  have hin:=ush16_lt hu
  obtain ⟨k,rfl⟩:∃ k:Nat,en = (k:Int):=⟨en.toNat,by omega⟩
  obtain ⟨a,of,hA,hab,hq⟩:=Lq.at_ len14H (by omega) HX1.out.s.r2 (show k < S.H.length by omega)
  subst hA
  obtain ⟨x,hx⟩:∃ x,gt14 S.H k = x:=⟨_,rfl⟩
  rw [hx] at hq
  obtain ⟨xz,xf,xc,xq,xu⟩:=x
  have e0:u1.cell? ⟨a,of + k * 5,none⟩ = some (.int .i64 xz):=hq 0 _ rfl
  have HE:Hid (lv16 S (k:Int) = ((xz == 2) || (xz == 3))):=Lib.hid (by rw [lv16,at14_yes hu,Int.toNat_natCast,hx])
  have i1:(k:Int) < (n2:Int):=by have:=HL2.out; omega
  have hgb:decide ((k:Int)≥0) = true:=by simp
  clear hq hx hab hge hu1 hu hin
  by_cases z2:xz = 2
  ·
   subst z2
   go_wp2_with fail
   go_ret
   exact ⟨by rw [HE.out]; rfl,HX1.out.b⟩
  ·
   have z2b:(xz == 2) = false:=by simp [z2]
   rw [z2b] at HE
   go_wp2_with fail
   go_ret
   exact ⟨by rw [HE.out]; rfl,HX1.out.b⟩
 ·
  obtain rfl:=hge (by omega)
  have HE:Hid (lv16 S (-1) = false):=Lib.hid (lv16_no (tl16_neg S))
  clear hge hu1 h0
  go_wp2_with fail
  go_ret
  exact ⟨by rw [HE.out]; rfl,HX1.out.b⟩
end Go.Proofs.YtgopgbfgbddggaaGreat
