import Derived.Test.YtkdmnlihpebbkaaGreatCT15
set_option linter.all false
set_option maxHeartbeats 8000000
namespace Go.Proofs.YtkdmnlihpebbkaaGreat
section
open Go.RowKit
set_option maxRecDepth 100000
theorem low_b {j:Nat} (A1 A2:Option Addr) (n1 c1 n2 c2 a b L1 L2:Nat) (w:World) (h1:Num w L1 (.agg #[.slice A1 n1 c1]) a) (h2:Num w L2 (.agg #[.slice A2 n2 c2]) b) (ha:a < 65536 ^ j) (hb:b < 65536 ^ j) (hb0:0 < b) (hj:j<=2000) :
  Calls Tryz.prog 51 #[.agg #[.slice A1 n1 c1,.slice A2 n2 c2]] w (RetDB w (a / Nat.gcd a b) (b / Nat.gcd a b)):=by
 have hbb:=b2 w (.cells #[.slice A1 n1 c1,.slice A2 n2 c2] 35) (.cells #[.slice none 0 0,.slice none 0 0] 35);have q1:=(Blk.new w 35 #[.slice A1 n1 c1,.slice A2 n2 c2]).alloc (.cells #[.slice none 0 0,.slice none 0 0] 35);have q2:=Blk.new (w.alloc (.cells #[.slice A1 n1 c1,.slice A2 n2 c2] 35)) 35 #[.slice none 0 0,.slice none 0 0]
 rw [World.size_alloc] at q2;obtain ⟨W0,hW0⟩:=exq ((w.alloc (.cells #[.slice A1 n1 c1,.slice A2 n2 c2] 35)).alloc (.cells #[.slice none 0 0,.slice none 0 0] 35));rw [hW0] at hbb q1 q2;have hg:Nat.gcd a b < 65536 ^ j:=gcd_small ha hb;have hg0:0 < Nat.gcd a b:=Nat.gcd_pos_of_pos_right _ hb0;have HX:=qz (h1.below hbb);have HY:=qz (h2.below hbb);have HA:=qz ha
 have HB:=qz hb;obtain ⟨G,hG⟩:=exq (Nat.gcd a b);have hgc:=refGcd3_any A1 A2 n1 c1 n2 c2 a b _ _ W0 HX.out HY.out ha hb (by omega);rw [hG] at hg hg0 hgc ⊢;have HG:=qz hg;have HG0:=qz hg0;have x0:W0.cell? ⟨w.heap.size,0,none⟩ = some (.slice A1 n1 c1):=q1.cell 0;have x1:W0.cell? ⟨w.heap.size,1,none⟩ = some (.slice A2 n2 c2):=q1.cell 1;have hl1:=q1.lt
 have hl2:=q2.lt;have Q2:=qz q2;clear h1 h2 ha hb hg hg0 hG q1 q2;go_enter Tryz.func51,Tryz.ntmps51;go_wp2_with fail;refine hgc.mono ?_;rintro e w1 ⟨v,rfl,⟨L3,hv⟩,hb1⟩;obtain ⟨A3,n3,c3,rfl⟩:=hv.shape;have ha1:=b1 w1 (.cells #[.slice A3 n3 c3] 33);have hb2:=hb1.trans (ha1.mono hb1.size);have xx:=cells2 hb2 ⟨x0,x1⟩;have HX:=qz (HX.out.below hb2)
 have HY:=qz (HY.out.below hb2);have HV:=qz (hv.below ha1);have g0:(w1.alloc (.cells #[.slice A3 n3 c3] 33)).cell? ⟨w1.heap.size,0,none⟩ = some (.slice A3 n3 c3):=(Blk.new w1 _ _).cell 0;have Q2:=qz (Q2.out.below hb2 hl2);have hBw:=hbb.trans (hb2.mono hbb.size)
 have hl1:w.heap.size < (w1.alloc (.cells #[.slice A3 n3 c3] 33)).heap.size:=Nat.lt_of_lt_of_le hl1 hb2.size;have hgl:w1.heap.size < (w1.alloc (.cells #[.slice A3 n3 c3] 33)).heap.size:=by simp
 clear hgc hv hb1 hb2 ha1 x0 x1 hbb hl2 hW0;go_upto_region 2 with (fail)
 obtain ⟨g3,hg3⟩:=exq w1.heap.size;obtain ⟨W1,hW1⟩:=exq (w1.alloc (.cells #[.slice A3 n3 c3] 33));rw [hW1] at xx HX HY HV g0 Q2 hBw hl1 hgl;rw [hg3] at g0 hgl;rw [hg3,hW1];clear hg3 hW1;obtain ⟨x0,x1⟩:=xx;go_wp2_with fail;refine (div_num _ _ a G _ _ W1 HX.out HV.out HA.out HG.out HG0.out).mono ?_;rintro e w2 ⟨v1,v2,rfl,hv1,hv2,hb3⟩
 obtain ⟨B1,i1,e1,rfl⟩:=hv1.shape;obtain ⟨B2,i2,e2,rfl⟩:=hv2.shape;have ha2:=b2 w2 (.cells #[.slice B1 i1 e1] 33) (.cells #[.slice B2 i2 e2] 33);have hb4:=hb3.trans (ha2.mono hb3.size);have xx:=cells2 hb4 ⟨x0,x1⟩;have gg:=(hb4.cell (p:=⟨g3,0,none⟩) hgl).trans g0;have HY:=qz (HY.out.below hb4);have HV:=qz (HV.out.below hb4)
 have HN:=qz (num_lower (hv1.below ha2) (show w.heap.size<=W1.heap.size from hBw.size));have n0:((w2.alloc (.cells #[.slice B1 i1 e1] 33)).alloc (.cells #[.slice B2 i2 e2] 33)).cell? ⟨w2.heap.size,0,none⟩ = some (.slice B1 i1 e1):=((Blk.new w2 33 #[.slice B1 i1 e1]).alloc _).cell 0;have Q2:=qz (Q2.out.below hb4 Q2.out.lt)
 have hBw:=hBw.trans (hb4.mono hBw.size);have hnl:w2.heap.size < ((w2.alloc (.cells #[.slice B1 i1 e1] 33)).alloc (.cells #[.slice B2 i2 e2] 33)).heap.size:=by simp; omega
 clear hv1 hv2 hb3 hb4 ha2 x0 x1 g0 HX hl1 hgl;go_upto_region 3 with (fail)
 obtain ⟨g4,hg4⟩:=exq w2.heap.size;obtain ⟨W2,hW2⟩:=exq ((w2.alloc (.cells #[.slice B1 i1 e1] 33)).alloc (.cells #[.slice B2 i2 e2] 33));rw [hW2] at xx gg HY HV HN n0 Q2 hBw hnl;rw [hg4] at n0 hnl;rw [hg4,hW2];clear hg4 hW2;obtain ⟨x0,x1⟩:=xx;go_wp2_with fail;refine (div_num _ _ b G _ _ W2 HY.out HV.out HB.out HG.out HG0.out).mono ?_
 rintro e w3 ⟨v3,v4,rfl,hv3,hv4,hb5⟩;obtain ⟨B3,i3,e3,rfl⟩:=hv3.shape;obtain ⟨B4,i4,e4,rfl⟩:=hv4.shape;have ha3:=b2 w3 (.cells #[.slice B3 i3 e3] 33) (.cells #[.slice B4 i4 e4] 33);have hb6:=hb5.trans (ha3.mono hb5.size);have m0:=(hb6.cell (p:=⟨g4,0,none⟩) hnl).trans n0;have HN:=qz (HN.out.below hb6)
 have HD:=qz (num_lower (hv3.below ha3) (show w.heap.size<=W2.heap.size from hBw.size));have d0:((w3.alloc (.cells #[.slice B3 i3 e3] 33)).alloc (.cells #[.slice B4 i4 e4] 33)).cell? ⟨w3.heap.size,0,none⟩ = some (.slice B3 i3 e3):=((Blk.new w3 33 #[.slice B3 i3 e3]).alloc _).cell 0;have Q2:=qz (Q2.out.below hb6 Q2.out.lt)
 have hBw:=hBw.trans (hb6.mono hBw.size);clear hv3 hv4 hb5 hb6 ha3 x0 x1 gg n0 HY HV hnl;go_upto_region 4 with (fail)
 obtain ⟨W3,hW3⟩:=exq ((w3.alloc (.cells #[.slice B3 i3 e3] 33)).alloc (.cells #[.slice B4 i4 e4] 33));rw [hW3] at m0 HN HD d0 Q2 hBw;rw [hW3];clear hW3;have k0:W3.cell? ⟨w.heap.size + 1,0,none⟩ = some (.slice none 0 0):=Q2.out.cell 0;have k1:W3.cell? ⟨w.heap.size + 1,1,none⟩ = some (.slice none 0 0):=Q2.out.cell 1;have f0:=Q2.out.frozen 0
 have f1:=Q2.out.frozen 1;go_wp2_with fail;have hp:=put_Q Q2.out (.slice B1 i1 e1) (.slice B3 i3 e3);have k1':(W3.setCell ⟨w.heap.size + 1,0,none⟩ (.slice B1 i1 e1)).cell? ⟨w.heap.size + 1,1,none⟩ = some (.slice none 0 0):=(World.cell?_setCell_other _ _ _ _ (by intro e; injection e; omega)).trans k1
 exact bodyPost_ret (v:=.agg #[.slice B1 i1 e1,.slice B3 i3 e3]) (by simp [results,Tryz.results51,go_sem,hp.cell 0,hp.cell 1]) rfl
  ⟨_,_,_,_,_,_,rfl,⟨_,Nat.le_refl _,(HN.out.setSi k0).setSi k1'⟩,⟨_,Nat.le_refl _,(HD.out.setSi k0).setSi k1'⟩,(hBw.setCell (by show w.heap.size<=w.heap.size + 1; omega) _).setCell (by show w.heap.size<=w.heap.size + 1; omega) _⟩
theorem of4_b (n d:Nat) (w:World) (hn:n < 18446744073709551616) (hd:d < 18446744073709551616) (hd0:0 < d):Calls Tryz.prog 67 #[.int .u64 (n:Int),.int .u64 (d:Int)] w (RetDB w (n / Nat.gcd n d) (d / Nat.gcd n d)):=by
 have hb:=b1 w (.cells #[.slice none 0 0,.slice none 0 0] 35);have hbk:=qbox w;obtain ⟨W0,hW0⟩:=exq (w.alloc (.cells #[.slice none 0 0,.slice none 0 0] 35));rw [hW0] at hb hbk;have HBK:=qz hbk;have PN:=qz (pow_word hn);have PD:=qz (pow_word hd);clear hbk;go_enter Tryz.func67,Tryz.ntmps67;go_wp2_with fail;refine (of_word n W0 hn).mono ?_
 rintro e w1 ⟨v1,rfl,hv1,hb1⟩;obtain ⟨A1,n1,c1,rfl⟩:=hv1.shape;have H1:=qz hv1;clear hv1;go_wp2_with fail;refine (of_word d w1 hd).mono ?_;rintro e w2 ⟨v2,rfl,hv2,hb2⟩;obtain ⟨A2,n2,c2,rfl⟩:=hv2.shape;have hB2:=hb1.trans (hb2.mono hb1.size);have hlow:=low_b A1 A2 n1 c1 n2 c2 n d _ _ w2 (H1.out.below hb2) hv2 PN.out PD.out hd0 (by omega);clear hv2 H1 hb1 hb2
 go_wp2_with fail;refine hlow.mono ?_;rintro e w3 ⟨B1,i1,e1,B2,i2,e2,rfl,⟨L1,hl1,hx⟩,⟨L2,hl2,hy⟩,hb3⟩;have hB3:=hB2.trans (hb3.mono hB2.size);have hbk3:=HBK.out.below hB3 HBK.out.lt;have k0:w3.cell? ⟨w.heap.size,0,none⟩ = some (.slice none 0 0):=hbk3.cell 0;have k1:w3.cell? ⟨w.heap.size,1,none⟩ = some (.slice none 0 0):=hbk3.cell 1;have f0:=hbk3.frozen 0
 have f1:=hbk3.frozen 1;have hB2w:=(hb.trans (hB2.mono hb.size)).size;have HX:=qz (num_lower hx (Nat.le_trans hB2w hl1));have HY:=qz (num_lower hy (Nat.le_trans hB2w hl2));have HBK3:=qz hbk3;have hBw:=hb.trans (hB3.mono hb.size);clear hx hy hbk3 hb3 hlow hW0;go_wp2_with fail;have hp:=put_Q HBK3.out (.slice B1 i1 e1) (.slice B2 i2 e2)
 have k1':(w3.setCell ⟨w.heap.size,0,none⟩ (.slice B1 i1 e1)).cell? ⟨w.heap.size,1,none⟩ = some (.slice none 0 0):=(World.cell?_setCell_other _ _ _ _ (by intro e; injection e; omega)).trans k1
 exact bodyPost_ret (v:=.agg #[.slice B1 i1 e1,.slice B2 i2 e2]) (by simp [results,Tryz.results67,go_sem,hp.cell 0,hp.cell 1]) rfl
  ⟨_,_,_,_,_,_,rfl,⟨_,Nat.le_refl _,(HX.out.setSi k0).setSi k1'⟩,⟨_,Nat.le_refl _,(HY.out.setSi k0).setSi k1'⟩,(hBw.setCell (Nat.le_refl _) _).setCell (Nat.le_refl _) _⟩
theorem int4_b (n:Nat) (w:World) (hn:n < 18446744073709551616):Calls Tryz.prog 10 #[.int .u64 (n:Int)] w (RetDB w n 1):=by
 have hb:=b1 w (.cells #[.slice none 0 0,.slice none 0 0] 35);have hbk:=qbox w;obtain ⟨W0,hW0⟩:=exq (w.alloc (.cells #[.slice none 0 0,.slice none 0 0] 35));rw [hW0] at hb hbk;have HBK:=qz hbk;clear hbk;go_enter Tryz.func10,Tryz.ntmps10;go_wp2_with fail;refine (of_word n W0 hn).mono ?_;rintro e w1 ⟨v1,rfl,hv1,hb1⟩;obtain ⟨A1,n1,c1,rfl⟩:=hv1.shape
 have H1:=qz hv1;clear hv1;go_wp2_with fail;refine (of_one w1).mono ?_;rintro e w2 ⟨v2,rfl,hv2,hb2⟩;obtain ⟨A2,n2,c2,rfl⟩:=hv2.shape;have hB3:=hb1.trans (hb2.mono hb1.size);have hbk3:=HBK.out.below hB3 HBK.out.lt;have k0:w2.cell? ⟨w.heap.size,0,none⟩ = some (.slice none 0 0):=hbk3.cell 0
 have k1:w2.cell? ⟨w.heap.size,1,none⟩ = some (.slice none 0 0):=hbk3.cell 1;have f0:=hbk3.frozen 0;have f1:=hbk3.frozen 1;have HX:=qz (num_lower (H1.out.below hb2) hb.size);have HY:=qz (num_lower hv2 (Nat.le_trans hb.size hb1.size));have HBK3:=qz hbk3;have hBw:=hb.trans (hB3.mono hb.size);clear hv2 hbk3 hb2 hb1 hW0;go_wp2_with fail
 have hp:=put_Q HBK3.out (.slice A1 n1 c1) (.slice A2 n2 c2);have k1':(w2.setCell ⟨w.heap.size,0,none⟩ (.slice A1 n1 c1)).cell? ⟨w.heap.size,1,none⟩ = some (.slice none 0 0):=(World.cell?_setCell_other _ _ _ _ (by intro e; injection e; omega)).trans k1
 exact bodyPost_ret (v:=.agg #[.slice A1 n1 c1,.slice A2 n2 c2]) (by simp [results,Tryz.results10,go_sem,hp.cell 0,hp.cell 1]) rfl
  ⟨_,_,_,_,_,_,rfl,⟨_,Nat.le_refl _,(HX.out.setSi k0).setSi k1'⟩,⟨_,Nat.le_refl _,(HY.out.setSi k0).setSi k1'⟩,(hBw.setCell (Nat.le_refl _) _).setCell (Nat.le_refl _) _⟩
theorem add4_b {j:Nat} (A1 A2 A3 A4:Option Addr) (n1 c1 n2 c2 n3 c3 n4 c4 p q r t L1 L2 L3 L4:Nat) (w:World) (h1:Num w L1 (.agg #[.slice A1 n1 c1]) p) (h2:Num w L2 (.agg #[.slice A2 n2 c2]) q) (h3:Num w L3 (.agg #[.slice A3 n3 c3]) r) (h4:Num w L4 (.agg #[.slice A4 n4 c4]) t)
  (bp:p < 65536 ^ j) (bq:q < 65536 ^ j) (br:r < 65536 ^ j) (bt:t < 65536 ^ j) (hd0:0 < q * t) (hj:j<=900) :
  Calls Tryz.prog 32 #[.agg #[.slice A1 n1 c1,.slice A2 n2 c2],.agg #[.slice A3 n3 c3,.slice A4 n4 c4]] w (RetDB w ((p * t + r * q) / Nat.gcd (p * t + r * q) (q * t)) ((q * t) / Nat.gcd (p * t + r * q) (q * t))):=by
 have hbb:=b2 w (.cells #[.slice A1 n1 c1,.slice A2 n2 c2] 35) (.cells #[.slice A3 n3 c3,.slice A4 n4 c4] 35);have q1:=(Blk.new w 35 #[.slice A1 n1 c1,.slice A2 n2 c2]).alloc (.cells #[.slice A3 n3 c3,.slice A4 n4 c4] 35);have q2:=Blk.new (w.alloc (.cells #[.slice A1 n1 c1,.slice A2 n2 c2] 35)) 35 #[.slice A3 n3 c3,.slice A4 n4 c4]
 rw [World.size_alloc] at q2;have hsz0:((w.alloc (.cells #[.slice A1 n1 c1,.slice A2 n2 c2] 35)).alloc (.cells #[.slice A3 n3 c3,.slice A4 n4 c4] 35)).heap.size = w.heap.size + 1 + 1:=by simp
 obtain ⟨Wb,hWb⟩:=exq ((w.alloc (.cells #[.slice A1 n1 c1,.slice A2 n2 c2] 35)).alloc (.cells #[.slice A3 n3 c3,.slice A4 n4 c4] 35));rw [hWb] at hbb q1 q2 hsz0;have x1:Wb.cell? ⟨w.heap.size,0,none⟩ = some (.slice A1 n1 c1):=q1.cell 0;have x2:Wb.cell? ⟨w.heap.size,1,none⟩ = some (.slice A2 n2 c2):=q1.cell 1
 have x3:Wb.cell? ⟨w.heap.size + 1,0,none⟩ = some (.slice A3 n3 c3):=q2.cell 0;have x4:Wb.cell? ⟨w.heap.size + 1,1,none⟩ = some (.slice A4 n4 c4):=q2.cell 1;have Hp:=qz (h1.below hbb);have Hq:=qz (h2.below hbb);have Hr:=qz (h3.below hbb);have Ht:=qz (h4.below hbb);have Bp:=qz bp;have Bq:=qz bq;have Br:=qz br;have Bt:=qz bt
 have hsz:Wb.heap.size<=w.heap.size + 1 + 1:=by omega
 have HNU:Hid (p * t + r * q < 65536 ^ (j + j + 1)):=qz (add_lt2 (mul_lt2 bp bt) (mul_lt2 br bq));have HDE:Hid (q * t < 65536 ^ (j + j + 1)):=qz (lt_up (mul_lt2 bq bt));have hrb:=Blk.new Wb 35 #[.slice none 0 0,.slice none 0 0];rw [hsz0] at hrb
 have HRB:Hid (Blk (Wb.alloc (.cells #[.slice none 0 0,.slice none 0 0] 35)).drew (w.heap.size + 1 + 1) 35 #[.slice none 0 0,.slice none 0 0]):=qz hrb;have hst:Below Wb.heap.size Wb (Wb.alloc (.cells #[.slice none 0 0,.slice none 0 0] 35)).drew:=(b1 Wb _).drew;have HBS:=qz hst;clear hrb;clear h1 h2 h3 h4 bp bq br bt q1 q2;go_enter Tryz.func32,Tryz.ntmps32
 go_wp2_with fail;clear hWb;refine wp_region_held_drew (S:=fun W => Below Wb.heap.size Wb W) (by kernel_rfl) hst (fun hHeld => ?_);obtain ⟨wn,hwn⟩:=exq ((Wb.alloc (.cells #[.slice none 0 0,.slice none 0 0] 35)).drew);rw [hwn] at HBS hHeld HRB;rw [hwn];clear hwn
 refine wpAnyH_take (i:=0) (v:=?_) (op_of rfl) (by kernel_rfl) (by kernel_rfl) (by kernel_rfl) (fun _ _ _ h => h) (Or.inl ⟨by rfl,fun W hS => ?_⟩) (by assumption) ?_;rotate_left
 ·
  dsimp only at hS;go_simp
  try with_reducible rfl
 try dsimp only [Act.put]
 try simp only [List.setIfInBounds_toArray,List.set_cons_zero,List.set_cons_succ]
 refine wpAnyH_take (i:=1) (v:=?_) (op_of rfl) (by kernel_rfl) (by kernel_rfl) (by kernel_rfl) (fun _ _ _ h => h) (Or.inl ⟨by rfl,fun W hS => ?_⟩) (by assumption) ?_;rotate_left
 ·
  dsimp only at hS;have z:=(hS.cell (World.block_lt_of_cell? _ _ x1)).trans x1;go_simp
  try with_reducible rfl
 try dsimp only [Act.put]
 try simp only [List.setIfInBounds_toArray,List.set_cons_zero,List.set_cons_succ]
 refine wpAnyH_take (i:=2) (v:=?_) (op_of rfl) (by kernel_rfl) (by kernel_rfl) (by kernel_rfl) (fun _ _ _ h => h) (Or.inl ⟨by rfl,fun W hS => ?_⟩) (by assumption) ?_;rotate_left
 ·
  dsimp only at hS;go_simp
  try with_reducible rfl
 try dsimp only [Act.put]
 try simp only [List.setIfInBounds_toArray,List.set_cons_zero,List.set_cons_succ]
 refine wpAnyH_take (i:=3) (v:=?_) (op_of rfl) (by kernel_rfl) (by kernel_rfl) (by kernel_rfl) (fun _ _ _ h => h) (Or.inl ⟨by rfl,fun W hS => ?_⟩) (by assumption) ?_;rotate_left
 ·
  dsimp only at hS;have z:=(hS.cell (World.block_lt_of_cell? _ _ x4)).trans x4;go_simp
  try with_reducible rfl
 try dsimp only [Act.put]
 try simp only [List.setIfInBounds_toArray,List.set_cons_zero,List.set_cons_succ]
 refine wpAnyH_take (i:=5) (v:=?_) (op_of rfl) (by kernel_rfl) (by kernel_rfl) (by kernel_rfl) (fun _ _ _ h => h) (Or.inl ⟨by rfl,fun W hS => ?_⟩) (by assumption) ?_;rotate_left
 ·
  dsimp only at hS;go_simp
  try with_reducible rfl
 try dsimp only [Act.put]
 try simp only [List.setIfInBounds_toArray,List.set_cons_zero,List.set_cons_succ]
 refine wpAnyH_take (i:=6) (v:=?_) (op_of rfl) (by kernel_rfl) (by kernel_rfl) (by kernel_rfl) (fun _ _ _ h => h) (Or.inl ⟨by rfl,fun W hS => ?_⟩) (by assumption) ?_;rotate_left
 ·
  dsimp only at hS;have z:=(hS.cell (World.block_lt_of_cell? _ _ x3)).trans x3;go_simp
  try with_reducible rfl
 try dsimp only [Act.put]
 try simp only [List.setIfInBounds_toArray,List.set_cons_zero,List.set_cons_succ]
 refine wpAnyH_take (i:=7) (v:=?_) (op_of rfl) (by kernel_rfl) (by kernel_rfl) (by kernel_rfl) (fun _ _ _ h => h) (Or.inl ⟨by rfl,fun W hS => ?_⟩) (by assumption) ?_;rotate_left
 ·
  dsimp only at hS;go_simp
  try with_reducible rfl
 try dsimp only [Act.put]
 try simp only [List.setIfInBounds_toArray,List.set_cons_zero,List.set_cons_succ]
 refine wpAnyH_take (i:=8) (v:=?_) (op_of rfl) (by kernel_rfl) (by kernel_rfl) (by kernel_rfl) (fun _ _ _ h => h) (Or.inl ⟨by rfl,fun W hS => ?_⟩) (by assumption) ?_;rotate_left
 ·
  dsimp only at hS;have z:=(hS.cell (World.block_lt_of_cell? _ _ x2)).trans x2;go_simp
  try with_reducible rfl
 try dsimp only [Act.put]
 try simp only [List.setIfInBounds_toArray,List.set_cons_zero,List.set_cons_succ]
 refine wpAnyH_take (i:=11) (v:=?_) (op_of rfl) (by kernel_rfl) (by kernel_rfl) (by kernel_rfl) (fun _ _ _ h => h) (Or.inl ⟨by rfl,fun W hS => ?_⟩) (by assumption) ?_;rotate_left
 ·
  dsimp only at hS;go_simp
  try with_reducible rfl
 try dsimp only [Act.put]
 try simp only [List.setIfInBounds_toArray,List.set_cons_zero,List.set_cons_succ]
 refine wpAnyH_take (i:=12) (v:=?_) (op_of rfl) (by kernel_rfl) (by kernel_rfl) (by kernel_rfl) (fun _ _ _ h => h) (Or.inl ⟨by rfl,fun W hS => ?_⟩) (by assumption) ?_;rotate_left
 ·
  dsimp only at hS;have z:=(hS.cell (World.block_lt_of_cell? _ _ x2)).trans x2;go_simp
  try with_reducible rfl
 try dsimp only [Act.put]
 try simp only [List.setIfInBounds_toArray,List.set_cons_zero,List.set_cons_succ]
 refine wpAnyH_take (i:=13) (v:=?_) (op_of rfl) (by kernel_rfl) (by kernel_rfl) (by kernel_rfl) (fun _ _ _ h => h) (Or.inl ⟨by rfl,fun W hS => ?_⟩) (by assumption) ?_;rotate_left
 ·
  dsimp only at hS;go_simp
  try with_reducible rfl
 try dsimp only [Act.put]
 try simp only [List.setIfInBounds_toArray,List.set_cons_zero,List.set_cons_succ]
 refine wpAnyH_take (i:=14) (v:=?_) (op_of rfl) (by kernel_rfl) (by kernel_rfl) (by kernel_rfl) (fun _ _ _ h => h) (Or.inl ⟨by rfl,fun W hS => ?_⟩) (by assumption) ?_;rotate_left
 ·
  dsimp only at hS;have z:=(hS.cell (World.block_lt_of_cell? _ _ x4)).trans x4;go_simp
  try with_reducible rfl
 try dsimp only [Act.put]
 try simp only [List.setIfInBounds_toArray,List.set_cons_zero,List.set_cons_succ]
 refine wpAnyH_ready (rs:=[4]) (by kernel_rfl) (by simp) (AllReadyH.cons (op_of rfl) (fun K hK => ?_) AllReadyH.nil);go_simp;refine (mul_num (.agg #[.slice A1 n1 c1]) (.agg #[.slice A4 n4 c4]) p t _ _ _ (Hp.out.below HBS.out) (Ht.out.below HBS.out) Bp.out Bt.out (by omega) (by omega)).mono ?_;rintro en wn ⟨v,rfl,h,hb⟩;obtain ⟨D4,m4,d4,rfl⟩:=h.shape
 have HBS:=qz (HBS.out.trans (hb.mono HBS.out.size));have HRB:=qz (HRB.out.below hb HRB.out.lt);have HP4:=qz h;clear h hb;refine hK.out _ _ HBS.out (fun hHeld => ?_);clear hK K
 try dsimp only [Act.put]
 try simp only [List.setIfInBounds_toArray,List.set_cons_zero,List.set_cons_succ]
 refine wpAnyH_ready (rs:=[9]) (by kernel_rfl) (by simp) (AllReadyH.cons (op_of rfl) (fun K hK => ?_) AllReadyH.nil);go_simp;refine (mul_num (.agg #[.slice A3 n3 c3]) (.agg #[.slice A2 n2 c2]) r q _ _ _ (Hr.out.below HBS.out) (Hq.out.below HBS.out) Br.out Bq.out (by omega) (by omega)).mono ?_;rintro en wn ⟨v,rfl,h,hb⟩;obtain ⟨D9,m9,d9,rfl⟩:=h.shape
 have HBS:=qz (HBS.out.trans (hb.mono HBS.out.size));have HP4:=qz (HP4.out.below hb);have HRB:=qz (HRB.out.below hb HRB.out.lt);have HP9:=qz h;clear h hb;refine hK.out _ _ HBS.out (fun hHeld => ?_);clear hK K
 try dsimp only [Act.put]
 try simp only [List.setIfInBounds_toArray,List.set_cons_zero,List.set_cons_succ]
 refine wpAnyH_ready (rs:=[10]) (by kernel_rfl) (by simp) (AllReadyH.cons (op_of rfl) (fun K hK => ?_) AllReadyH.nil);go_simp;refine (add_num (.agg #[.slice D4 m4 d4]) (.agg #[.slice D9 m9 d9]) (p * t) (r * q) _ _ _ HP4.out HP9.out (mul_lt2 Bp.out Bt.out) (mul_lt2 Br.out Bq.out) (by omega) (by omega)).mono ?_;rintro en wn ⟨v,rfl,h,hb⟩
 obtain ⟨D10,m10,d10,rfl⟩:=h.shape;have HBS:=qz (HBS.out.trans (hb.mono HBS.out.size));have HP4:=qz (HP4.out.below hb);have HP9:=qz (HP9.out.below hb);have HRB:=qz (HRB.out.below hb HRB.out.lt);have HP10:=qz h;clear h hb;refine hK.out _ _ HBS.out (fun hHeld => ?_);clear hK K
 try dsimp only [Act.put]
 try simp only [List.setIfInBounds_toArray,List.set_cons_zero,List.set_cons_succ]
 refine wpAnyH_ready (rs:=[15]) (by kernel_rfl) (by simp) (AllReadyH.cons (op_of rfl) (fun K hK => ?_) AllReadyH.nil);go_simp;refine (mul_num (.agg #[.slice A2 n2 c2]) (.agg #[.slice A4 n4 c4]) q t _ _ _ (Hq.out.below HBS.out) (Ht.out.below HBS.out) Bq.out Bt.out (by omega) (by omega)).mono ?_;rintro en wn ⟨v,rfl,h,hb⟩;obtain ⟨D15,m15,d15,rfl⟩:=h.shape
 have HBS:=qz (HBS.out.trans (hb.mono HBS.out.size));have HP4:=qz (HP4.out.below hb);have HP9:=qz (HP9.out.below hb);have HP10:=qz (HP10.out.below hb);have HRB:=qz (HRB.out.below hb HRB.out.lt);have HP15:=qz h;clear h hb;refine hK.out _ _ HBS.out (fun hHeld => ?_);clear hK K
 try dsimp only [Act.put]
 try simp only [List.setIfInBounds_toArray,List.set_cons_zero,List.set_cons_succ]
 refine wpAnyH_take (i:=16) (v:=?_) (op_of rfl) (by kernel_rfl) (by kernel_rfl) (by kernel_rfl) (fun _ _ _ h => h) (Or.inl ⟨by rfl,fun W hS => ?_⟩) (by assumption) ?_;rotate_left
 ·
  dsimp only at hS;go_simp
  try with_reducible rfl
 try dsimp only [Act.put]
 try simp only [List.setIfInBounds_toArray,List.set_cons_zero,List.set_cons_succ]
 refine wpAnyH_ready (rs:=[17]) (by kernel_rfl) (by simp) (AllReadyH.cons (op_of rfl) (fun K hK => ?_) AllReadyH.nil);go_simp;refine (low_b (j:=j + j + 1) D10 D15 m10 d10 m15 d15 (p * t + r * q) (q * t) _ _ _ HP10.out HP15.out HNU.out HDE.out hd0 (by omega)).mono ?_;rintro en wn ⟨E1,i1,e1,E2,i2,e2,rfl,⟨L5,hl5,hq1⟩,⟨L6,hl6,hq2⟩,hb⟩
 have hl0:w.heap.size<=L5/\w.heap.size<=L6:=by have h1:=HBS.out.size; have h2:=hbb.size; omega
 have hq1:=num_lower hq1 hl0.1;have hq2:=num_lower hq2 hl0.2;have HBS:=qz (HBS.out.trans (hb.mono HBS.out.size));have HRB:=qz (HRB.out.below hb HRB.out.lt);have HQ1:=qz hq1;have HQ2:=qz hq2;clear hq1 hq2 hb;refine hK.out _ _ HBS.out (fun hHeld => ?_);clear hK K
 try dsimp only [Act.put]
 try simp only [List.setIfInBounds_toArray,List.set_cons_zero,List.set_cons_succ]
 refine wpAnyH_ready (rs:=[18]) (by kernel_rfl) (by simp) (AllReadyH.cons (op_of rfl) (fun K hK => ?_) AllReadyH.nil);have k0:=HRB.out.cell 0;have k1:=HRB.out.cell 1;have f0:=HRB.out.frozen 0;have f1:=HRB.out.frozen 1;go_simp
 have HBS:=qz ((HBS.out.setCell (p:=⟨w.heap.size + 1 + 1,0,none⟩) hsz (.slice E1 i1 e1)).setCell (p:=⟨w.heap.size + 1 + 1,1,none⟩) hsz (.slice E2 i2 e2));refine hK.out _ _ HBS.out (fun hHeld => ?_);clear hK K
 try dsimp only [Act.put]
 try simp only [List.setIfInBounds_toArray,List.set_cons_zero,List.set_cons_succ]
 refine wpAnyH_done (by kernel_rfl) ?_ _;have k1':(wn.setCell ⟨w.heap.size + 1 + 1,0,none⟩ (.slice E1 i1 e1)).cell? ⟨w.heap.size + 1 + 1,1,none⟩ = some (.slice none 0 0):=(World.cell?_setCell_other _ _ _ _ (by intro e; injection e; omega)).trans k1;have hp:=put_Q HRB.out (.slice E1 i1 e1) (.slice E2 i2 e2);go_wp2_with fail
 exact bodyPost_ret (v:=.agg #[.slice E1 i1 e1,.slice E2 i2 e2]) (by simp [results,Tryz.results32,go_sem,hp.cell 0,hp.cell 1]) rfl ⟨_,_,_,_,_,_,rfl,⟨_,Nat.le_refl _,(HQ1.out.setSi k0).setSi k1'⟩,⟨_,Nat.le_refl _,(HQ2.out.setSi k0).setSi k1'⟩,hbb.trans (HBS.out.mono hbb.size)⟩
theorem mul4_b {j:Nat} (A1 A2 A3 A4:Option Addr) (n1 c1 n2 c2 n3 c3 n4 c4 p q r t L1 L2 L3 L4:Nat) (w:World) (h1:Num w L1 (.agg #[.slice A1 n1 c1]) p) (h2:Num w L2 (.agg #[.slice A2 n2 c2]) q) (h3:Num w L3 (.agg #[.slice A3 n3 c3]) r) (h4:Num w L4 (.agg #[.slice A4 n4 c4]) t)
  (bp:p < 65536 ^ j) (bq:q < 65536 ^ j) (br:r < 65536 ^ j) (bt:t < 65536 ^ j) (hd0:0 < q * t) (hj:j<=900) :
  Calls Tryz.prog 66 #[.agg #[.slice A1 n1 c1,.slice A2 n2 c2],.agg #[.slice A3 n3 c3,.slice A4 n4 c4]] w (RetDB w ((p * r) / Nat.gcd (p * r) (q * t)) ((q * t) / Nat.gcd (p * r) (q * t))):=by
 have hbb:=b2 w (.cells #[.slice A1 n1 c1,.slice A2 n2 c2] 35) (.cells #[.slice A3 n3 c3,.slice A4 n4 c4] 35);have q1:=(Blk.new w 35 #[.slice A1 n1 c1,.slice A2 n2 c2]).alloc (.cells #[.slice A3 n3 c3,.slice A4 n4 c4] 35);have q2:=Blk.new (w.alloc (.cells #[.slice A1 n1 c1,.slice A2 n2 c2] 35)) 35 #[.slice A3 n3 c3,.slice A4 n4 c4]
 rw [World.size_alloc] at q2;have hsz0:((w.alloc (.cells #[.slice A1 n1 c1,.slice A2 n2 c2] 35)).alloc (.cells #[.slice A3 n3 c3,.slice A4 n4 c4] 35)).heap.size = w.heap.size + 1 + 1:=by simp
 obtain ⟨Wb,hWb⟩:=exq ((w.alloc (.cells #[.slice A1 n1 c1,.slice A2 n2 c2] 35)).alloc (.cells #[.slice A3 n3 c3,.slice A4 n4 c4] 35));rw [hWb] at hbb q1 q2 hsz0;have x1:Wb.cell? ⟨w.heap.size,0,none⟩ = some (.slice A1 n1 c1):=q1.cell 0;have x2:Wb.cell? ⟨w.heap.size,1,none⟩ = some (.slice A2 n2 c2):=q1.cell 1
 have x3:Wb.cell? ⟨w.heap.size + 1,0,none⟩ = some (.slice A3 n3 c3):=q2.cell 0;have x4:Wb.cell? ⟨w.heap.size + 1,1,none⟩ = some (.slice A4 n4 c4):=q2.cell 1;have Hp:=qz (h1.below hbb);have Hq:=qz (h2.below hbb);have Hr:=qz (h3.below hbb);have Ht:=qz (h4.below hbb);have Bp:=qz bp;have Bq:=qz bq;have Br:=qz br;have Bt:=qz bt
 have hsz:Wb.heap.size<=w.heap.size + 1 + 1:=by omega
 have HNU:Hid (p * r < 65536 ^ (j + j + 1)):=qz (lt_up (mul_lt2 bp br));have HDE:Hid (q * t < 65536 ^ (j + j + 1)):=qz (lt_up (mul_lt2 bq bt));have hrb:=Blk.new Wb 35 #[.slice none 0 0,.slice none 0 0];rw [hsz0] at hrb
 have HRB:Hid (Blk (Wb.alloc (.cells #[.slice none 0 0,.slice none 0 0] 35)).drew (w.heap.size + 1 + 1) 35 #[.slice none 0 0,.slice none 0 0]):=qz hrb;have hst:Below Wb.heap.size Wb (Wb.alloc (.cells #[.slice none 0 0,.slice none 0 0] 35)).drew:=(b1 Wb _).drew;have HBS:=qz hst;clear hrb;clear h1 h2 h3 h4 bp bq br bt q1 q2;go_enter Tryz.func66,Tryz.ntmps66
 go_wp2_with fail;clear hWb;refine wp_region_held_drew (S:=fun W => Below Wb.heap.size Wb W) (by kernel_rfl) hst (fun hHeld => ?_);obtain ⟨wn,hwn⟩:=exq ((Wb.alloc (.cells #[.slice none 0 0,.slice none 0 0] 35)).drew);rw [hwn] at HBS hHeld HRB;rw [hwn];clear hwn
 refine wpAnyH_take (i:=0) (v:=?_) (op_of rfl) (by kernel_rfl) (by kernel_rfl) (by kernel_rfl) (fun _ _ _ h => h) (Or.inl ⟨by rfl,fun W hS => ?_⟩) (by assumption) ?_;rotate_left
 ·
  dsimp only at hS;go_simp
  try with_reducible rfl
 try dsimp only [Act.put]
 try simp only [List.setIfInBounds_toArray,List.set_cons_zero,List.set_cons_succ]
 refine wpAnyH_take (i:=1) (v:=?_) (op_of rfl) (by kernel_rfl) (by kernel_rfl) (by kernel_rfl) (fun _ _ _ h => h) (Or.inl ⟨by rfl,fun W hS => ?_⟩) (by assumption) ?_;rotate_left
 ·
  dsimp only at hS;have z:=(hS.cell (World.block_lt_of_cell? _ _ x1)).trans x1;go_simp
  try with_reducible rfl
 try dsimp only [Act.put]
 try simp only [List.setIfInBounds_toArray,List.set_cons_zero,List.set_cons_succ]
 refine wpAnyH_take (i:=2) (v:=?_) (op_of rfl) (by kernel_rfl) (by kernel_rfl) (by kernel_rfl) (fun _ _ _ h => h) (Or.inl ⟨by rfl,fun W hS => ?_⟩) (by assumption) ?_;rotate_left
 ·
  dsimp only at hS;go_simp
  try with_reducible rfl
 try dsimp only [Act.put]
 try simp only [List.setIfInBounds_toArray,List.set_cons_zero,List.set_cons_succ]
 refine wpAnyH_take (i:=3) (v:=?_) (op_of rfl) (by kernel_rfl) (by kernel_rfl) (by kernel_rfl) (fun _ _ _ h => h) (Or.inl ⟨by rfl,fun W hS => ?_⟩) (by assumption) ?_;rotate_left
 ·
  dsimp only at hS;have z:=(hS.cell (World.block_lt_of_cell? _ _ x3)).trans x3;go_simp
  try with_reducible rfl
 try dsimp only [Act.put]
 try simp only [List.setIfInBounds_toArray,List.set_cons_zero,List.set_cons_succ]
 refine wpAnyH_take (i:=5) (v:=?_) (op_of rfl) (by kernel_rfl) (by kernel_rfl) (by kernel_rfl) (fun _ _ _ h => h) (Or.inl ⟨by rfl,fun W hS => ?_⟩) (by assumption) ?_;rotate_left
 ·
  dsimp only at hS;go_simp
  try with_reducible rfl
 try dsimp only [Act.put]
 try simp only [List.setIfInBounds_toArray,List.set_cons_zero,List.set_cons_succ]
 refine wpAnyH_take (i:=6) (v:=?_) (op_of rfl) (by kernel_rfl) (by kernel_rfl) (by kernel_rfl) (fun _ _ _ h => h) (Or.inl ⟨by rfl,fun W hS => ?_⟩) (by assumption) ?_;rotate_left
 ·
  dsimp only at hS;have z:=(hS.cell (World.block_lt_of_cell? _ _ x2)).trans x2;go_simp
  try with_reducible rfl
 try dsimp only [Act.put]
 try simp only [List.setIfInBounds_toArray,List.set_cons_zero,List.set_cons_succ]
 refine wpAnyH_take (i:=7) (v:=?_) (op_of rfl) (by kernel_rfl) (by kernel_rfl) (by kernel_rfl) (fun _ _ _ h => h) (Or.inl ⟨by rfl,fun W hS => ?_⟩) (by assumption) ?_;rotate_left
 ·
  dsimp only at hS;go_simp
  try with_reducible rfl
 try dsimp only [Act.put]
 try simp only [List.setIfInBounds_toArray,List.set_cons_zero,List.set_cons_succ]
 refine wpAnyH_take (i:=8) (v:=?_) (op_of rfl) (by kernel_rfl) (by kernel_rfl) (by kernel_rfl) (fun _ _ _ h => h) (Or.inl ⟨by rfl,fun W hS => ?_⟩) (by assumption) ?_;rotate_left
 ·
  dsimp only at hS;have z:=(hS.cell (World.block_lt_of_cell? _ _ x4)).trans x4;go_simp
  try with_reducible rfl
 try dsimp only [Act.put]
 try simp only [List.setIfInBounds_toArray,List.set_cons_zero,List.set_cons_succ]
 refine wpAnyH_ready (rs:=[4]) (by kernel_rfl) (by simp) (AllReadyH.cons (op_of rfl) (fun K hK => ?_) AllReadyH.nil);go_simp;refine (mul_num (.agg #[.slice A1 n1 c1]) (.agg #[.slice A3 n3 c3]) p r _ _ _ (Hp.out.below HBS.out) (Hr.out.below HBS.out) Bp.out Br.out (by omega) (by omega)).mono ?_;rintro en wn ⟨v,rfl,h,hb⟩;obtain ⟨D4,m4,d4,rfl⟩:=h.shape
 have HBS:=qz (HBS.out.trans (hb.mono HBS.out.size));have HRB:=qz (HRB.out.below hb HRB.out.lt);have HP4:=qz h;clear h hb;refine hK.out _ _ HBS.out (fun hHeld => ?_);clear hK K
 try dsimp only [Act.put]
 try simp only [List.setIfInBounds_toArray,List.set_cons_zero,List.set_cons_succ]
 refine wpAnyH_ready (rs:=[9]) (by kernel_rfl) (by simp) (AllReadyH.cons (op_of rfl) (fun K hK => ?_) AllReadyH.nil);go_simp;refine (mul_num (.agg #[.slice A2 n2 c2]) (.agg #[.slice A4 n4 c4]) q t _ _ _ (Hq.out.below HBS.out) (Ht.out.below HBS.out) Bq.out Bt.out (by omega) (by omega)).mono ?_;rintro en wn ⟨v,rfl,h,hb⟩;obtain ⟨D9,m9,d9,rfl⟩:=h.shape
 have HBS:=qz (HBS.out.trans (hb.mono HBS.out.size));have HP4:=qz (HP4.out.below hb);have HRB:=qz (HRB.out.below hb HRB.out.lt);have HP9:=qz h;clear h hb;refine hK.out _ _ HBS.out (fun hHeld => ?_);clear hK K
 try dsimp only [Act.put]
 try simp only [List.setIfInBounds_toArray,List.set_cons_zero,List.set_cons_succ]
 refine wpAnyH_take (i:=10) (v:=?_) (op_of rfl) (by kernel_rfl) (by kernel_rfl) (by kernel_rfl) (fun _ _ _ h => h) (Or.inl ⟨by rfl,fun W hS => ?_⟩) (by assumption) ?_;rotate_left
 ·
  dsimp only at hS;go_simp
  try with_reducible rfl
 try dsimp only [Act.put]
 try simp only [List.setIfInBounds_toArray,List.set_cons_zero,List.set_cons_succ]
 refine wpAnyH_ready (rs:=[11]) (by kernel_rfl) (by simp) (AllReadyH.cons (op_of rfl) (fun K hK => ?_) AllReadyH.nil);go_simp;refine (low_b (j:=j + j + 1) D4 D9 m4 d4 m9 d9 (p * r) (q * t) _ _ _ HP4.out HP9.out HNU.out HDE.out hd0 (by omega)).mono ?_;rintro en wn ⟨E1,i1,e1,E2,i2,e2,rfl,⟨L5,hl5,hq1⟩,⟨L6,hl6,hq2⟩,hb⟩
 have hl0:w.heap.size<=L5/\w.heap.size<=L6:=by have h1:=HBS.out.size; have h2:=hbb.size; omega
 have hq1:=num_lower hq1 hl0.1;have hq2:=num_lower hq2 hl0.2;have HBS:=qz (HBS.out.trans (hb.mono HBS.out.size));have HRB:=qz (HRB.out.below hb HRB.out.lt);have HQ1:=qz hq1;have HQ2:=qz hq2;clear hq1 hq2 hb;refine hK.out _ _ HBS.out (fun hHeld => ?_);clear hK K
 try dsimp only [Act.put]
 try simp only [List.setIfInBounds_toArray,List.set_cons_zero,List.set_cons_succ]
 refine wpAnyH_ready (rs:=[12]) (by kernel_rfl) (by simp) (AllReadyH.cons (op_of rfl) (fun K hK => ?_) AllReadyH.nil);have k0:=HRB.out.cell 0;have k1:=HRB.out.cell 1;have f0:=HRB.out.frozen 0;have f1:=HRB.out.frozen 1;go_simp
 have HBS:=qz ((HBS.out.setCell (p:=⟨w.heap.size + 1 + 1,0,none⟩) hsz (.slice E1 i1 e1)).setCell (p:=⟨w.heap.size + 1 + 1,1,none⟩) hsz (.slice E2 i2 e2));refine hK.out _ _ HBS.out (fun hHeld => ?_);clear hK K
 try dsimp only [Act.put]
 try simp only [List.setIfInBounds_toArray,List.set_cons_zero,List.set_cons_succ]
 refine wpAnyH_done (by kernel_rfl) ?_ _;have k1':(wn.setCell ⟨w.heap.size + 1 + 1,0,none⟩ (.slice E1 i1 e1)).cell? ⟨w.heap.size + 1 + 1,1,none⟩ = some (.slice none 0 0):=(World.cell?_setCell_other _ _ _ _ (by intro e; injection e; omega)).trans k1;have hp:=put_Q HRB.out (.slice E1 i1 e1) (.slice E2 i2 e2);go_wp2_with fail
 exact bodyPost_ret (v:=.agg #[.slice E1 i1 e1,.slice E2 i2 e2]) (by simp [results,Tryz.results66,go_sem,hp.cell 0,hp.cell 1]) rfl ⟨_,_,_,_,_,_,rfl,⟨_,Nat.le_refl _,(HQ1.out.setSi k0).setSi k1'⟩,⟨_,Nat.le_refl _,(HQ2.out.setSi k0).setSi k1'⟩,hbb.trans (HBS.out.mono hbb.size)⟩
theorem us14_in {α:Type} [Inhabited α] {us:α->Bool} (hus:us default = false) {xs:List α} {i:Int} (h:us14 us xs i = true):∃ q:Nat,i = (q:Int)/\q < xs.length/\us (gt14 xs q) = true/\at14 us xs i = gt14 xs q:=by
 have h0:0<=i/\i < (xs.length:Int):=Classical.byContradiction (fun hn => by rw [us14_off hus hn] at h; cases h);obtain ⟨q,rfl⟩:∃ q:Nat,i = (q:Int):=⟨i.toNat,by omega⟩
 have hu:us (gt14 xs q) = true:=by have h2:=h; rwa [us14_nat] at h2
 exact ⟨q,rfl,by omega,hu,at14_nat hu⟩
theorem ris14 (v:Value) (S:Sv14) (i st wh:Int) (b:Bool) (w:World) (h:St14 w v S) (hbt:b = true↔us14 usH S.H i = true/\(at14 usH S.H i).s = st/\(at14 usH S.H i).f = wh) :
  Calls Tryz.prog 46 #[v,.int .i64 i,.int .i64 st,.int .i64 wh] w fun e w' => e = .returned (.bool b)/\Below w.heap.size w w':=by
 obtain ⟨A0,A1,A2,A3,A4,n0,n1,n2,n3,n4,c0,c1,c2,c3,c4,sq,rfl,hs⟩:=h;have HX0:=qz (Bx14.new hs);obtain ⟨W1,hW1⟩:=exq (w.alloc (.cells #[.slice A0 n0 c0,.slice A1 n1 c1,.slice A2 n2 c2,.slice A3 n3 c3,.slice A4 n4 c4,.int .i64 sq] 28));rw [hW1] at HX0;obtain ⟨q0,q1,q2,q3,q4,q5⟩:=ce6 HX0.out.x;obtain ⟨bu,hbu⟩:=exq (us14 usH S.H i)
 have HTH:=qz (rThread14 _ S i bu W1 HX0.out.st hbu)
 cases bu with
 | false =>
  obtain rfl:b = false:=bool14_of hbt (fun h => by have:=h.1; rw [hbu] at this; cases this);clear hbt hbu hs;go_enter Tryz.func46,Tryz.ntmps46;go_wp2_with fail;refine HTH.out.mono ?_;rintro e u ⟨rfl,hb⟩;have HB2:=qz (HX0.out.step hb).b;clear HTH hb;go_wp2_with fail;go_ret
  exact ⟨rfl,HB2.out⟩
 | true =>
  obtain ⟨q,rfl,hq,_,hat⟩:=us14_in def14H hbu;rw [hat] at hbt;obtain ⟨x,hx⟩:=exq (gt14 S.H q);rw [hx] at hbt;obtain ⟨xz,xf,xc,xq,xu⟩:=x;have hb2:b = true↔xz = st/\xf = wh:=by rw [hbt]; simp [hbu]
  have HE:Hid (b = (xz == st && xf == wh)):=qz (by rw [Bool.eq_iff_iff,hb2]; simp);have HQ:=qz hq;have HXE:=qz hx;have hqn:q < n2:=by rw [<- hs.l2]; exact hq
  clear hbt hbu hat hb2 hx hq hs;go_enter Tryz.func46,Tryz.ntmps46;go_wp2_with fail;refine HTH.out.mono ?_;rintro e u ⟨rfl,hb⟩;have HX2:=qz (HX0.out.step hb);have hB2:=HX2.out.b;have HB2:=qz hB2;obtain ⟨a,of,hA,hab,hq⟩:=Lq.at_ len14H (by omega) HX2.out.s.r2 HQ.out;subst hA;rw [HXE.out] at hq
  have e0:u.cell? ⟨a,of + q * 5,none⟩ = some (.int .i64 xz):=hq 0 _ rfl;have e1:u.cell? ⟨a,of + q * 5 + 1,none⟩ = some (.int .i64 xf):=hq 1 _ rfl;have i0:(0:Int)<=(q:Int):=by omega
  have i1:(q:Int) < (n2:Int):=by omega
  have y2:=HX2.out.x.cell 2;clear HTH hb hB2 hq hab;by_cases hz:xz = st
  ·
   subst hz;go_wp2_with fail;go_ret;exact ⟨by rw [HE.out]; simp,HB2.out⟩
  ·
   have HF:Hid ((xz == st) = false):=qz (by simpa using hz);go_wp2_with fail;go_ret;exact ⟨by rw [HE.out,HF.out]; first | rfl | (show Ending.returned (Value.bool (xz == st)) = _; rw [HF.out]; rfl),HB2.out⟩
theorem rqueues14 (v:Value) (S:Sv14) (k:Nat) (xz xf xc xq xu:Int) (b:Bool) (w:World) (h:St14 w v S) (hk:k < S.H.length) (hx:gt14 S.H k = ⟨xz,xf,xc,xq,xu⟩) (hok:xz = 4->us14 usH S.H xf = true) (hbt:b = true↔Queues14 S k ⟨xz,xf,xc,xq,xu⟩) :
  Calls Tryz.prog 47 #[v,.int .i64 (k:Int)] w fun e w' => e = .returned (.bool b)/\Below w.heap.size w w':=by
 obtain ⟨A0,A1,A2,A3,A4,n0,n1,n2,n3,n4,c0,c1,c2,c3,c4,sq,rfl,hs⟩:=h;rw [hs.l2] at hk;have hb:Below w.heap.size w (w.alloc (.cells #[.slice A0 n0 c0,.slice A1 n1 c1,.slice A2 n2 c2,.slice A3 n3 c3,.slice A4 n4 c4,.int .i64 sq] 28)):=(b1' w _)
 have hk0:Blk (w.alloc (.cells #[.slice A0 n0 c0,.slice A1 n1 c1,.slice A2 n2 c2,.slice A3 n3 c3,.slice A4 n4 c4,.int .i64 sq] 28)) (w.heap.size) 28 #[.slice A0 n0 c0,.slice A1 n1 c1,.slice A2 n2 c2,.slice A3 n3 c3,.slice A4 n4 c4,.int .i64 sq]:=by
  have h:=(Blk.new w 28 #[.slice A0 n0 c0,.slice A1 n1 c1,.slice A2 n2 c2,.slice A3 n3 c3,.slice A4 n4 c4,.int .i64 sq])
  exact h
 have hs0:=hs.step hb;have hz0:(w.alloc (.cells #[.slice A0 n0 c0,.slice A1 n1 c1,.slice A2 n2 c2,.slice A3 n3 c3,.slice A4 n4 c4,.int .i64 sq] 28)).heap.size = w.heap.size + 1:=by simp
 obtain ⟨W0,hW0⟩:=exq ((w.alloc (.cells #[.slice A0 n0 c0,.slice A1 n1 c1,.slice A2 n2 c2,.slice A3 n3 c3,.slice A4 n4 c4,.int .i64 sq] 28)));rw [hW0] at hb hs0 hz0 hk0;have hkl:k < S.H.length:=by rw [hs0.l2]; exact hk
 obtain ⟨a,of,hA,hab,hq⟩:=Lq.at_ len14H (by omega) hs0.r2 hkl;subst hA;rw [hx] at hq;have e0:W0.cell? ⟨a,of + k * 5,none⟩ = some (.int .i64 xz):=hq 0 _ rfl;have e1:W0.cell? ⟨a,of + k * 5 + 1,none⟩ = some (.int .i64 xf):=hq 1 _ rfl;have e2:W0.cell? ⟨a,of + k * 5 + 2,none⟩ = some (.int .i64 xc):=hq 2 _ rfl
 have e3:W0.cell? ⟨a,of + k * 5 + 3,none⟩ = some (.int .i64 xq):=hq 3 _ rfl;have e4:W0.cell? ⟨a,of + k * 5 + 4,none⟩ = some (.int .i64 xu):=hq 4 _ rfl;have i0:(0:Int)<=(k:Int):=by omega
 have i1:(k:Int) < (n2:Int):=by omega
 have q2:=hk0.cell 2;have hb2:=hb.alloc hb.size (.cells #[.int .i64 xz,.int .i64 xf,.int .i64 xc,.int .i64 xq,.int .i64 xu] 60);have hkx:=Blk.new W0 60 #[.int .i64 xz,.int .i64 xf,.int .i64 xc,.int .i64 xq,.int .i64 xu];obtain ⟨f0,f1,f2,f3,f4⟩:=ce5 hkx;have hkb:=hk0.alloc (.cells #[.int .i64 xz,.int .i64 xf,.int .i64 xc,.int .i64 xq,.int .i64 xu] 60)
 have p2:=hkb.cell 2;have HS:=qz (hs0.step (b1' W0 (.cells #[.int .i64 xz,.int .i64 xf,.int .i64 xc,.int .i64 xq,.int .i64 xu] 60)));have HB2:=qz hb2;by_cases z4:xz = 4
 ·
  subst z4;obtain ⟨q,rfl,hql,_,hat⟩:=us14_in def14H (hok rfl);obtain ⟨y,hy⟩:=exq (gt14 S.H q);obtain ⟨yz,yf,yc,yq,yu⟩:=y;have HE:Hid (b = (yc != (k:Int))):=qz (by rw [Bool.eq_iff_iff,hbt]; simp [Queues14,hat,hy]);obtain ⟨a2,of2,hA2,_,hq2⟩:=Lq.at_ len14H (by omega) HS.out.r2 hql;injection hA2 with hA2
  injection hA2 with ha2 ho2
  subst ha2 ho2;rw [hy] at hq2;have g2:(W0.alloc (.cells #[.int .i64 4,.int .i64 (q:Int),.int .i64 xc,.int .i64 xq,.int .i64 xu] 60)).cell? ⟨a,of + q * 5 + 2,none⟩ = some (.int .i64 yc):=hq2 2 _ rfl;have j0:(0:Int)<=(q:Int):=by omega
  have j1:(q:Int) < (n2:Int):=by rw [HS.out.l2] at hql; omega
  clear hs hs0 hb hb2 hk0 hkb hkx hq hx hkl hz0 hbt hok hat hy hq2 hab hql;go_enter Tryz.func47,Tryz.ntmps47;go_wp2_with fail;go_ret;exact ⟨by rw [HE.out]; rfl,HB2.out⟩
 ·
  have HE:Hid (b = (xz == 6)):=qz (by rw [Bool.eq_iff_iff,hbt]; simp [Queues14,z4]);clear hs hs0 hb hb2 hk0 hkb hkx hq hx hkl hz0 hbt hok hab;go_enter Tryz.func47,Tryz.ntmps47;go_wp2_with fail;go_ret;exact ⟨by rw [HE.out]; rfl,HB2.out⟩
theorem info14B:(Tryz.prog.info? 74).map (fun i => (i.zero,i.size,i.bytes)) = some (some (.agg #[.int .i64 0,.int .i64 0]),2,16):=by kernel_rfl
structure Br14 (w:World) (S:Sv14) (A0 A1 A2 A3 A4:Option Addr) (n0 n1 n2 n3 n4 c0 c1 c2 c3 c4:Nat) (sq:Int) (A:Option Addr) (m c:Nat) (l:List (Int × Int)) (W:World):Prop where
 b:Bx14 w S A0 A1 A2 A3 A4 n0 n1 n2 n3 n4 c0 c1 c2 c3 c4 sq W
 o:W.ownsRow (w.heap.size + 1) 74 2 (.slice A m c) m (acs l)
 l:l.length = m
theorem Br14.step {w:World} {S:Sv14} {A0 A1 A2 A3 A4:Option Addr} {n0 n1 n2 n3 n4 c0 c1 c2 c3 c4:Nat} {sq:Int} {A:Option Addr} {m c:Nat} {l:List (Int × Int)} {W W':World} (h:Br14 w S A0 A1 A2 A3 A4 n0 n1 n2 n3 n4 c0 c1 c2 c3 c4 sq A m c l W) (hb:Below W.heap.size W W'):Br14 w S A0 A1 A2 A3 A4 n0 n1 n2 n3 n4 c0 c1 c2 c3 c4 sq A m c l W' :=
 ⟨h.b.step hb,own12_keep2 h.o hb,h.l⟩
theorem Br14.congr {w:World} {S:Sv14} {A0 A1 A2 A3 A4:Option Addr} {n0 n1 n2 n3 n4 c0 c1 c2 c3 c4:Nat} {sq:Int} {A:Option Addr} {m c:Nat} {l l2:List (Int × Int)} {W:World} (h:Br14 w S A0 A1 A2 A3 A4 n0 n1 n2 n3 n4 c0 c1 c2 c3 c4 sq A m c l W) (e:l = l2):Br14 w S A0 A1 A2 A3 A4 n0 n1 n2 n3 n4 c0 c1 c2 c3 c4 sq A m c l2 W:=e ▸ h
theorem Br14.push {w:World} {S:Sv14} {A0 A1 A2 A3 A4:Option Addr} {n0 n1 n2 n3 n4 c0 c1 c2 c3 c4:Nat} {sq:Int} {A:Option Addr} {m c:Nat} {l:List (Int × Int)} {W:World} (hs:SA14 w S A0 A1 A2 A3 A4 n0 n1 n2 n3 n4 c0 c1 c2 c3 c4 sq) (h:Br14 w S A0 A1 A2 A3 A4 n0 n1 n2 n3 n4 c0 c1 c2 c3 c4 sq A m c l W) (x y:Int) (hm:m<=2000) :
  ∃ Az cz W2,(Builtin.append_ #[57,57] 57 #[.slice A m c,.slice (some ⟨W.heap.size,0,none⟩) 1 1]).run Tryz.prog (W.alloc (.cells #[.int .i64 x,.int .i64 y] 74)) = .ok (.slice Az (m + 1) cz) W2/\Br14 w S A0 A1 A2 A3 A4 n0 n1 n2 n3 n4 c0 c1 c2 c3 c4 sq Az (m + 1) cz (l ++ [(x,y)]) W2/\(∀ g t cs,Blk W g t cs->t≠74->Blk W2 g t cs):=by
 have hbz:=b1' W (.cells #[.int .i64 x,.int .i64 y] 74);have hkz:=Blk.new W 74 #[.int .i64 x,.int .i64 y];have h1:=h.step hbz;have hsy:(W.alloc (.cells #[.int .i64 x,.int .i64 y] 74)).heap.size = W.heap.size + 1:=by simp
 have hkeep:∀ g t cs,Blk W g t cs->Blk (W.alloc (.cells #[.int .i64 x,.int .i64 y] 74)) g t cs:=fun g t cs hg => hg.alloc _
 obtain ⟨Y,hY⟩:=exq (W.alloc (.cells #[.int .i64 x,.int .i64 y] 74));rw [hY] at hbz hkz h1 hsy hkeep ⊢;have hrv:Rv Y Y.heap.size (some ⟨W.heap.size,0,none⟩) [.int .i64 x,.int .i64 y]:=fun _ => ⟨W.heap.size,0,rfl,by omega,fun j v hj => by rw [Nat.zero_add,hkz.cell]; simpa using hj⟩
 have hxl:=h1.b.x.lt;obtain ⟨Az,cz,W2,hrun,hown,hg⟩:=run_append_14 (P:=Tryz.prog) Y (w.heap.size + 1) 57 57 74 _ 2 16 Tryz.underlying57 info14B rfl (by omega) (by omega) _ m _ h1.o Y.heap.size (some ⟨W.heap.size,0,none⟩) [.int .i64 x,.int .i64 y] 1 1 rfl hrv (by simp [Value.oneCell']) (by omega) (by omega)
 have hB:Below w.heap.size w W2:=h1.b.b.grown hg h1.b.b.size (fun r hr => by have:=(h1.o.lt r hr).1; omega);refine ⟨Az,cz,W2,hrun,⟨⟨hB,h1.b.x.grown hg (fun e => by have:=(h1.o.lt _ e.symm).1; omega),hs.step hB⟩,?_,by simp [h.l]⟩,fun g t cs hb hne => (hkeep g t cs hb).grown hg (own14_blk h1.o (hkeep g t cs hb) hne)⟩;rw [acs_append];exact hown
theorem rcoinArrows14 (v:Value) (S:Sv14) (w:World) (h:St14 w v S):Calls Tryz.prog 27 #[v] w (RetAq14 w (cArr14 S S.T.length)):=by
 obtain ⟨A0,A1,A2,A3,A4,n0,n1,n2,n3,n4,c0,c1,c2,c3,c4,sq,rfl,hs⟩:=h;have HP:Hid (RetAq14 w (cArr14 S S.T.length) = fun e w' => ∃ A c,e = .returned (.slice A (cArr14 S n1).length c)/\Aq w' w'.heap.size A (cArr14 S n1)/\Below w.heap.size w w'):=qz (by rw [hs.l1]; rfl)
 have HX0:Hid (Br14 w S A0 A1 A2 A3 A4 n0 n1 n2 n3 n4 c0 c1 c2 c3 c4 sq none 0 0 (cArr14 S 0) (w.alloc (.cells #[.slice A0 n0 c0,.slice A1 n1 c1,.slice A2 n2 c2,.slice A3 n3 c3,.slice A4 n4 c4,.int .i64 sq] 28))):=qz ⟨Bx14.new hs,World.ownsRow_nil _ _ _ _,rfl⟩;have HS:=qz hs;have hnb:=hs.m1;clear hs;go_enter Tryz.func27,Tryz.ntmps27;go_wp2_with fail
 go_loopw [3,4] (fun v i wr => ∃ (k:Nat) (A:Option Addr) (m c:Nat),v = .slice A m c/\i = .int .i64 (k:Int)/\k<=n1/\Hid (Br14 w S A0 A1 A2 A3 A4 n0 n1 n2 n3 n4 c0 c1 c2 c3 c4 sq A m c (cArr14 S k) wr)) (fun _ i _ => n1 - (intOf i).toNat)
 case atStart => exact ⟨0,none,0,0,rfl,rfl,by omega,HX0⟩
 case round =>
  obtain ⟨k,A,m,c,rfl,rfl,hk,HW⟩:=hrel;have t0_:=HW.out.b.x.cell 1;by_cases hkn:k < n1
  ·
   skip;obtain ⟨a,of,hA,hab,hq⟩:=Lq.at_ len14T (by omega) HW.out.b.s.r1 (show k < S.T.length by rw [HW.out.b.s.l1]; omega);have HAE:=qz hA;obtain ⟨x,hx⟩:=exq (gt14 S.T k);rw [hx] at hq;obtain ⟨xu,xc,xa,xk,xt,xo⟩:=x;have e0:wr.cell? ⟨a,of + k * 6,none⟩ = some (.bool xu):=hq 0 _ rfl;have e1:wr.cell? ⟨a,of + k * 6 + 1,none⟩ = some (.int .i64 xc):=hq 1 _ rfl
   have e2:wr.cell? ⟨a,of + k * 6 + 2,none⟩ = some (.int .i64 xa):=hq 2 _ rfl;have e3:wr.cell? ⟨a,of + k * 6 + 3,none⟩ = some (.int .i64 xk):=hq 3 _ rfl;have e4:wr.cell? ⟨a,of + k * 6 + 4,none⟩ = some (.int .i64 xt):=hq 4 _ rfl;have e5:wr.cell? ⟨a,of + k * 6 + 5,none⟩ = some (.bool xo):=hq 5 _ rfl;have i0:(0:Int)<=(k:Int):=by omega
   have i1:(k:Int) < (n1:Int):=by omega
   have HV:=qz (Br14.step HW.out (b1' wr (.cells #[.bool xu,.int .i64 xc,.int .i64 xa,.int .i64 xk,.int .i64 xt,.bool xo] 55)));have hv:=Blk.new wr 55 #[.bool xu,.int .i64 xc,.int .i64 xa,.int .i64 xk,.int .i64 xt,.bool xo];obtain ⟨v0,v1,v2,v3,v4,v5⟩:=ce6 hv;have HVB:=qz hv;have HXE:=qz hx;obtain ⟨p0,p1,p2,p3,p4,p5⟩:=ce6 HV.out.b.x
   obtain ⟨X,hX⟩:=exq (wr.alloc (.cells #[.bool xu,.int .i64 xc,.int .i64 xa,.int .i64 xk,.int .i64 xt,.bool xo] 55));rw [hX] at HV HVB v0 v1 v2 v3 v4 v5 p0 p1 p2 p3 p4 p5;clear hv hq hx hab;subst hA;have hmk:m<=k:=by rw [<- HW.out.l]; exact cArr14_len S k
   cases xu with
   | false =>
    have HN:=qz (HV.out.congr (l2:=cArr14 S (k + 1)) (by rw [cArr14,HXE.out,if_neg (by simp),List.append_nil]));go_wp2_with fail;go_roundw
    case rel => exact ⟨k + 1,A,m,c,rfl,by go_num,by omega,HN⟩
    case measure => simp [intOf]; omega
   | true =>
    by_cases k2:xk = 2
    ·
     subst k2;have HE:Hid (cArr14 S (k + 1) = cArr14 S k ++ [(xc,xt)]):=qz (by rw [cArr14,HXE.out,if_pos (by simp)]);obtain ⟨Az,cz,W2,hrun,har,hkp⟩:=HV.out.push HS.out xc xt (by omega);have vz:=(hkp _ _ _ HVB.out (by decide)).cell 0;clear hkp;have HRUN:=qz hrun;have HAR:=qz (har.congr HE.out.symm);clear hrun har
     go_wp2_with (at_builtin; go_loud (refine wpList_append_14 _ rfl (.tmp 25) (.tmp 31) 57 rfl _ _ _ _ rfl rfl HRUN.out ?_));go_roundw
     case rel => exact ⟨k + 1,Az,m + 1,cz,rfl,by go_num,by omega,HAR⟩
     case measure => simp [intOf]; omega
    ·
     have HN:=qz (HV.out.congr (l2:=cArr14 S (k + 1)) (by rw [cArr14,HXE.out,if_neg (by simp [k2]),List.append_nil]));go_wp2_with fail;go_roundw
     case rel => exact ⟨k + 1,A,m,c,rfl,by go_num,by omega,HN⟩
     case measure => simp [intOf]; omega
  ·
   obtain rfl:k = n1:=by omega
   have HL:=qz HW.out.l;have h1:¬ (k:Int) < (k:Int):=by omega
   go_wp2_with fail;go_ret;rw [HP.out];exact ⟨A,c,by rw [HL.out]; rfl,aq14_own HW.out.o,HW.out.b.b⟩
theorem rthreadArrows14 (v:Value) (S:Sv14) (w:World) (h:St14 w v S) (hok:∀ j,j < S.H.length->(gt14 S.H j).s = 6->us14 usL S.L (gt14 S.H j).f = true):Calls Tryz.prog 28 #[v] w (RetAq14 w (tArr14 S S.H.length)):=by
 obtain ⟨A0,A1,A2,A3,A4,n0,n1,n2,n3,n4,c0,c1,c2,c3,c4,sq,rfl,hs⟩:=h;have HP:Hid (RetAq14 w (tArr14 S S.H.length) = fun e w' => ∃ A c,e = .returned (.slice A (tArr14 S n2).length c)/\Aq w' w'.heap.size A (tArr14 S n2)/\Below w.heap.size w w'):=qz (by rw [hs.l2]; rfl)
 have HX0:Hid (Br14 w S A0 A1 A2 A3 A4 n0 n1 n2 n3 n4 c0 c1 c2 c3 c4 sq none 0 0 (tArr14 S 0) (w.alloc (.cells #[.slice A0 n0 c0,.slice A1 n1 c1,.slice A2 n2 c2,.slice A3 n3 c3,.slice A4 n4 c4,.int .i64 sq] 28))):=qz ⟨Bx14.new hs,World.ownsRow_nil _ _ _ _,rfl⟩;have HS:=qz hs;have hnb:=hs.m2;have HOK:=qz hok;have HLH:=qz hs.l2;clear hs
 go_enter Tryz.func28,Tryz.ntmps28;go_wp2_with fail;go_loopw [3,4] (fun v i wr => ∃ (k:Nat) (A:Option Addr) (m c:Nat),v = .slice A m c/\i = .int .i64 (k:Int)/\k<=n2/\Hid (Br14 w S A0 A1 A2 A3 A4 n0 n1 n2 n3 n4 c0 c1 c2 c3 c4 sq A m c (tArr14 S k) wr)) (fun _ i _ => n2 - (intOf i).toNat)
 case atStart => exact ⟨0,none,0,0,rfl,rfl,by omega,HX0⟩
 case round =>
  obtain ⟨k,A,m,c,rfl,rfl,hk,HW⟩:=hrel;have t0_:=HW.out.b.x.cell 2;by_cases hkn:k < n2
  ·
   skip;obtain ⟨a,of,hA,hab,hq⟩:=Lq.at_ len14H (by omega) HW.out.b.s.r2 (show k < S.H.length by rw [HW.out.b.s.l2]; omega);have HAE:=qz hA;obtain ⟨x,hx⟩:=exq (gt14 S.H k);rw [hx] at hq;obtain ⟨xz,xf,xc,xq,xu⟩:=x;have e0:wr.cell? ⟨a,of + k * 5,none⟩ = some (.int .i64 xz):=hq 0 _ rfl;have e1:wr.cell? ⟨a,of + k * 5 + 1,none⟩ = some (.int .i64 xf):=hq 1 _ rfl
   have e2:wr.cell? ⟨a,of + k * 5 + 2,none⟩ = some (.int .i64 xc):=hq 2 _ rfl;have e3:wr.cell? ⟨a,of + k * 5 + 3,none⟩ = some (.int .i64 xq):=hq 3 _ rfl;have e4:wr.cell? ⟨a,of + k * 5 + 4,none⟩ = some (.int .i64 xu):=hq 4 _ rfl;have i0:(0:Int)<=(k:Int):=by omega
   have i1:(k:Int) < (n2:Int):=by omega
   have HV:=qz (Br14.step HW.out (b1' wr (.cells #[.int .i64 xz,.int .i64 xf,.int .i64 xc,.int .i64 xq,.int .i64 xu] 60)));have hv:=Blk.new wr 60 #[.int .i64 xz,.int .i64 xf,.int .i64 xc,.int .i64 xq,.int .i64 xu];obtain ⟨v0,v1,v2,v3,v4⟩:=ce5 hv;have HVB:=qz hv;have HXE:=qz hx;obtain ⟨p0,p1,p2,p3,p4,p5⟩:=ce6 HV.out.b.x
   obtain ⟨X,hX⟩:=exq (wr.alloc (.cells #[.int .i64 xz,.int .i64 xf,.int .i64 xc,.int .i64 xq,.int .i64 xu] 60));rw [hX] at HV HVB v0 v1 v2 v3 v4 p0 p1 p2 p3 p4 p5;clear hv hq hx hab;subst hA;have hmk:m<=k:=by rw [<- HW.out.l]; exact tArr14_len S k
   by_cases z4:xz = 4
   ·
    subst z4;have HE:Hid (tArr14 S (k + 1) = tArr14 S k ++ [((k:Int),xf)]):=qz (by rw [tArr14,HXE.out,if_pos rfl]);obtain ⟨Az,cz,W2,hrun,har,hkp⟩:=HV.out.push HS.out (k:Int) xf (by omega);have vz:=(hkp _ _ _ HVB.out (by decide)).cell 0;clear hkp;have HRUN:=qz hrun;have HAR:=qz (har.congr HE.out.symm);clear hrun har
    go_wp2_with (at_builtin; go_loud (refine wpList_append_14 _ rfl (.tmp 21) (.tmp 26) 57 rfl _ _ _ _ rfl rfl HRUN.out ?_));go_roundw
    case rel => exact ⟨k + 1,Az,m + 1,cz,rfl,by go_num,by omega,HAR⟩
    case measure => simp [intOf]; omega
   ·
    by_cases z6:xz = 6
    ·
     subst z6;obtain ⟨q,hxq,hql,_,hat⟩:=us14_in def14L (by have h:=HOK.out k (by rw [HLH.out]; exact hkn) (by rw [HXE.out]); rwa [HXE.out] at h:us14 usL S.L xf = true);subst hxq;obtain ⟨y,hy⟩:=exq (gt14 S.L q);obtain ⟨yu,yh⟩:=y;have HE:Hid (tArr14 S (k + 1) = tArr14 S k ++ [((k:Int),yh)]):=qz (by rw [tArr14,HXE.out,if_neg (by simp),if_pos rfl,hat,hy])
     obtain ⟨a3,of3,hA3,_,hq3⟩:=Lq.at_ len14L (by omega) HV.out.b.s.r3 hql;subst hA3;rw [hy] at hq3;have g1:X.cell? ⟨a3,of3 + q * 2 + 1,none⟩ = some (.int .i64 yh):=hq3 1 _ rfl;have j0:(0:Int)<=(q:Int):=by omega
     have j1:(q:Int) < (n3:Int):=by rw [HV.out.b.s.l3] at hql; omega
     clear hat hy hq3 hql;obtain ⟨Az,cz,W2,hrun,har,hkp⟩:=HV.out.push HS.out (k:Int) yh (by omega);have vz:=(hkp _ _ _ HVB.out (by decide)).cell 0;clear hkp;have HRUN:=qz hrun;have HAR:=qz (har.congr HE.out.symm);clear hrun har;go_wp2_with (at_builtin; go_loud (refine wpList_append_14 _ rfl (.tmp 31) (.tmp 41) 57 rfl _ _ _ _ rfl rfl HRUN.out ?_))
     go_roundw
     case rel => exact ⟨k + 1,Az,m + 1,cz,rfl,by go_num,by omega,HAR⟩
     case measure => simp [intOf]; omega
    ·
     have HN:=qz (HV.out.congr (l2:=tArr14 S (k + 1)) (by rw [tArr14,HXE.out,if_neg z4,if_neg z6,List.append_nil]));go_wp2_with fail;go_roundw
     case rel => exact ⟨k + 1,A,m,c,rfl,by go_num,by omega,HN⟩
     case measure => simp [intOf]; omega
  ·
   obtain rfl:k = n2:=by omega
   have HL:=qz HW.out.l;have h1:¬ (k:Int) < (k:Int):=by omega
   go_wp2_with fail;go_ret;rw [HP.out];exact ⟨A,c,by rw [HL.out]; rfl,aq14_own HW.out.o,HW.out.b.b⟩
end
end Go.Proofs.YtkdmnlihpebbkaaGreat
