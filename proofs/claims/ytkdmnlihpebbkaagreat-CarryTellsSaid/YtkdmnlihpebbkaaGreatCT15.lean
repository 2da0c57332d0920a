import Derived.Test.YtkdmnlihpebbkaaGreatCT14
set_option linter.all false
set_option maxHeartbeats 8000000
namespace Go.Proofs.YtkdmnlihpebbkaaGreat
section
open Go.RowKit
set_option maxRecDepth 100000
theorem mul_lt2 {a b j:Nat} (ha:a < 65536 ^ j) (hb:b < 65536 ^ j):a * b < 65536 ^ (j + j):=by rw [Nat.pow_add]; exact Nat.mul_lt_mul'' ha hb
theorem lt_up {a J:Nat} (h:a < 65536 ^ J):a < 65536 ^ (J + 1):=by rw [Nat.pow_succ]; omega
theorem add_lt2 {a b J:Nat} (ha:a < 65536 ^ J) (hb:b < 65536 ^ J):a + b < 65536 ^ (J + 1):=by rw [Nat.pow_succ]; omega
def mulQ (s q:Nat × Nat):Nat × Nat :=
 ((s.1 / Nat.gcd s.1 q.2) * (q.1 / Nat.gcd q.1 s.2),(s.2 / Nat.gcd q.1 s.2) * (q.2 / Nat.gcd s.1 q.2))
theorem div_lt_of {a b K:Nat} (h:a < K):a / b < K:=Nat.lt_of_le_of_lt (Nat.div_le_self _ _) h
theorem mulTwo_r {v1 v2 v3 v4:Value} {p q r t M:Nat} (w:World) (h1:Nr w v1 p M) (h2:Nr w v2 q M) (h3:Nr w v3 r M) (h4:Nr w v4 t M) (hM:M<=5000) :
  Calls Tryz.prog 139 #[.agg #[v1,v2],.agg #[v3,v4]] w (RetQ w (mulQ (p,q) (r,t)).1 (mulQ (p,q) (r,t)).2):=by
 obtain ⟨A1,n1,c1,rfl⟩:=h1.shape;obtain ⟨A2,n2,c2,rfl⟩:=h2.shape;obtain ⟨A3,n3,c3,rfl⟩:=h3.shape;obtain ⟨A4,n4,c4,rfl⟩:=h4.shape;obtain ⟨W1,hW1⟩:=exq (w.alloc (.cells #[.slice A1 n1 c1,.slice A2 n2 c2] 46));obtain ⟨W2,hW2⟩:=exq (W1.alloc (.cells #[.slice A3 n3 c3,.slice A4 n4 c4] 46))
 obtain ⟨Wb,hW3⟩:=exq (W2.alloc (.cells #[.slice none 0 0,.slice none 0 0] 46));have s1:W1.heap.size = w.heap.size + 1:=by rw [<- hW1]; simp
 have s2:W2.heap.size = w.heap.size + 1 + 1:=by rw [<- hW2]; simp [s1]
 have s3:Wb.heap.size = w.heap.size + 1 + 1 + 1:=by rw [<- hW3]; simp [s2]
 have e1:Below w.heap.size w W1:=by rw [<- hW1]; exact b1 _ _
 have e2:Below w.heap.size w W2:=by rw [<- hW2]; exact e1.trans ((b1 _ _).mono e1.size)
 have hbb:Below w.heap.size w Wb:=by rw [<- hW3]; exact e2.trans ((b1 _ _).mono e2.size)
 have q1:Blk Wb w.heap.size 46 #[.slice A1 n1 c1,.slice A2 n2 c2]:=by rw [<- hW3,<- hW2,<- hW1]; exact ((Blk.new _ _ _).alloc _).alloc _
 have q2:Blk Wb (w.heap.size + 1) 46 #[.slice A3 n3 c3,.slice A4 n4 c4]:=by rw [<- hW3,<- hW2,<- s1]; exact (Blk.new _ _ _).alloc _
 have q3:Blk Wb (w.heap.size + 1 + 1) 46 #[.slice none 0 0,.slice none 0 0]:=by rw [<- hW3,<- s2]; exact Blk.new _ _ _
 have hWb:((w.alloc (.cells #[.slice A1 n1 c1,.slice A2 n2 c2] 46)).alloc (.cells #[.slice A3 n3 c3,.slice A4 n4 c4] 46)).alloc (.cells #[.slice none 0 0,.slice none 0 0] 46) = Wb:=by rw [hW1,hW2,hW3]
 clear hW1 hW2 hW3 e1 e2 s1 s2;have x1:Wb.cell? ⟨w.heap.size,0,none⟩ = some (.slice A1 n1 c1):=q1.cell 0;have x2:Wb.cell? ⟨w.heap.size,1,none⟩ = some (.slice A2 n2 c2):=q1.cell 1;have x3:Wb.cell? ⟨w.heap.size + 1,0,none⟩ = some (.slice A3 n3 c3):=q2.cell 0;have x4:Wb.cell? ⟨w.heap.size + 1,1,none⟩ = some (.slice A4 n4 c4):=q2.cell 1
 have Hp:=qz (h1.below hbb);have Hq:=qz (h2.below hbb);have Hr:=qz (h3.below hbb);have Ht:=qz (h4.below hbb);have Bp:=qz h1.lt;have Bq:=qz h2.lt;have Br:=qz h3.lt;have Bt:=qz h4.lt;have Q1:=qz q1;have Q2:=qz q2;have Q3:=qz q3;have HBB:=qz hbb;have HZ:=qz s3;clear h1 h2 h3 h4 q1 q2 q3 hbb s3;go_enter Tryz.func139,Tryz.ntmps139;go_wp2_with fail;clear hWb
 refine (shares_r Wb Hp.out Ht.out (by omega)).mono ?_;rintro e w1 ⟨C1,i1,d1,C2,i2,d2,C3,i3,d3,rfl,hc1,ha1,hb1,hB1⟩;have y2:w1.cell? ⟨w.heap.size,1,none⟩ = some (.slice A2 n2 c2):=(hB1.cell (World.block_lt_of_cell? _ _ x2)).trans x2;have y3:w1.cell? ⟨w.heap.size + 1,0,none⟩ = some (.slice A3 n3 c3):=(hB1.cell (World.block_lt_of_cell? _ _ x3)).trans x3
 have N1:=qz (ha1.nr (div_lt_of Bp.out));have N2:=qz (hb1.nr (div_lt_of Bt.out));have HC1:=qz hc1;have HB1:=qz hB1;clear hc1 ha1 hb1 hB1 x1 x2 x3 x4;go_wp2_with fail;refine (shares_r w1 (Hr.out.below HB1.out) (Hq.out.below HB1.out) (by omega)).mono ?_;rintro e w2 ⟨C4,i4,d4,C5,i5,d5,C6,i6,d6,rfl,hc2,ha2,hb2,hB2⟩;have N3:=qz (ha2.nr (div_lt_of Br.out))
 have N4:=qz (hb2.nr (div_lt_of Bq.out));have N1:=qz (N1.out.below hB2);have N2:=qz (N2.out.below hB2);have HB2:=qz (HB1.out.trans (hB2.mono HB1.out.size));clear hc2 ha2 hb2 hB2 y2 y3;have hm1:=mul_new w2 N1.out N3.out hM;go_wp2_with fail;refine hm1.mono ?_;rintro e w3 ⟨u1,rfl,hu1,hb3⟩;obtain ⟨D1,j1,k1,rfl⟩:=hu1.shape
 have hx3:=(b1 w2 (.cells #[.slice C2 i2 d2,.slice C5 i5 d5] 44))
 have hB3:=hx3.trans (hb3.mono hx3.size);have N2:=qz (N2.out.below hB3);have N4:=qz (N4.out.below hB3);have U1:=qz (hu1.more (Nat.le_trans HB2.out.size hx3.size));have HB3:=qz (HB2.out.trans (hB3.mono HB2.out.size));clear hu1 hb3 hx3 hB3 hm1;have hm2:=mul_new w3 N4.out N2.out hM;go_wp2_with fail;refine hm2.mono ?_;rintro e w4 ⟨u2,rfl,hu2,hb4⟩
 obtain ⟨D2,j2,k2,rfl⟩:=hu2.shape;have hx4:=(b1 w3 (.cells #[.slice C6 i6 d6,.slice C3 i3 d3] 44))
 have hB4:=hx4.trans (hb4.mono hx4.size);have U1:=qz (U1.out.below hB4);have U2:=qz (hu2.more (Nat.le_trans HB3.out.size hx4.size));have hB5:=HB3.out.trans (hB4.mono HB3.out.size);have Q4:=Q3.out.below hB5 (by have:=HZ.out; omega);have HB5:=qz (HBB.out.trans (hB5.mono HBB.out.size));have kk0:=Q4.cell 0;have kk1:=Q4.cell 1;have f0:=Q4.frozen 0
 have f1:=Q4.frozen 1;have HQ4:=qz Q4;have hl:w.heap.size + 1 + 1 < Wb.heap.size:=by have:=HZ.out; omega
 have HL:=qz hl;clear hu2 hb4 hx4 hB4 hm2 Q4 hB5 hl;go_wp2_with fail;have hp:=put_q HQ4.out (.slice D1 j1 k1) (.slice D2 j2 k2)
 exact bodyPost_ret (v:=.agg #[.slice D1 j1 k1,.slice D2 j2 k2]) (by simp [results,Tryz.results139,go_sem,hp.cell 0,hp.cell 1]) rfl
  ⟨_,_,_,_,_,_,rfl,(U1.out.put_q HL.out _ _).more HBB.out.size,(U2.out.put_q HL.out _ _).more HBB.out.size,(HB5.out.setCell (by show w.heap.size<=w.heap.size + 1 + 1; omega) _).setCell (by show w.heap.size<=w.heap.size + 1 + 1; omega) _⟩
theorem ratioOne_r (w:World):Calls Tryz.prog 138 #[] w (RetQ w 1 1):=by
 have hb:=b1 w (.cells #[.slice none 0 0,.slice none 0 0] 46);obtain ⟨W0,hW0⟩:=exq (w.alloc (.cells #[.slice none 0 0,.slice none 0 0] 46));have hbk:=nilbox w;rw [hW0] at hb hbk;have hl:=hbk.lt;have h1:=natOf_any 1;go_enter Tryz.func138,Tryz.ntmps138;go_wp2_with fail;refine (h1 W0 (by omega)).mono ?_;rintro e w1 ⟨v1,rfl,hv1,hb1⟩
 obtain ⟨A1,n1,c1,rfl⟩:=hv1.shape;have hbk1:=hbk.below hb1 hbk.lt;have hB1:=hb.trans (hb1.mono hb.size);have HV1:=qz hv1;clear hv1;go_wp2_with fail;refine (h1 w1 (by omega)).mono ?_;rintro e w2 ⟨v2,rfl,hv2,hb2⟩;obtain ⟨A2,n2,c2,rfl⟩:=hv2.shape;have hbk2:=hbk1.below hb2 hbk1.lt;have hB2:=hB1.trans (hb2.mono hB1.size);have k0:=hbk2.cell 0;have k1:=hbk2.cell 1
 have f0:=hbk2.frozen 0;have f1:=hbk2.frozen 1;have HX:=qz (HV1.out.below hb2);have HY:=qz (hv2.more (show W0.heap.size<=w1.heap.size from hb1.size));have HBK:=qz hbk2;clear hv2 hbk hbk1 hbk2 hb2 hb1;go_wp2_with fail;have hp:=put_q HBK.out (.slice A1 n1 c1) (.slice A2 n2 c2)
 exact bodyPost_ret (v:=.agg #[.slice A1 n1 c1,.slice A2 n2 c2]) (by simp [results,Tryz.results138,go_sem,hp.cell 0,hp.cell 1]) rfl
  ⟨_,_,_,_,_,_,rfl,(HX.out.put_q hl _ _).more (by omega),(HY.out.put_q hl _ _).more (by omega),(hB2.setCell (Nat.le_refl _) _).setCell (Nat.le_refl _) _⟩
theorem ratioMul_wide (A:Option Addr) (L:List (Nat × Nat)) (n c M:Nat) (w:World) (hl:L.length = n) (hr:Rats w w.heap.size A L M) (hn1:n<=2000) (hn:n * M<=2000) (hM:M<=2000) :
  Calls Tryz.prog 126 #[.slice A n c] w (RetQ w (L.foldl mulQ (1,1)).1 (L.foldl mulQ (1,1)).2):=by
 have HNM:=qz hn;clear hn;have HL:=qz hl;have HR:=qz hr;clear hl hr;have hb:=b1 w (.cells #[.slice none 0 0,.slice none 0 0] 46);have hbk:=nilbox w;obtain ⟨W0,hW0⟩:=exq (w.alloc (.cells #[.slice none 0 0,.slice none 0 0] 46));rw [hW0] at hb hbk;have hl0:=hbk.lt;have HB0:=qz hbk;clear hbk;go_enter Tryz.func126,Tryz.ntmps126;go_wp2_with fail
 refine (ratioOne_r W0).mono ?_;rintro e w1 ⟨B1,i1,e1,B2,i2,e2,rfl,hx,hy,hb1⟩;have hs1:=hb1.size;have ha1:=b1 w1 (.cells #[.slice B1 i1 e1,.slice B2 i2 e2] 46)
 have hm0:AddM w w1.heap.size 1 1 (.slice B1 i1 e1) (.slice B2 i2 e2) (w1.alloc (.cells #[.slice B1 i1 e1,.slice B2 i2 e2] 46)) :=
  ⟨(hb.trans (hb1.mono hb.size)).trans (ha1.mono (by omega)),(HB0.out.below hb1 hl0).alloc _,Blk.new _ _ _,(hx.below ha1).more (by omega),(hy.below ha1).more (by omega),by omega⟩
 have HM0:=qz hm0;clear hx hy hm0;go_wp2_with fail;clear hW0
 go_loopw [9] (fun iv wr => ∃ (k x y:Nat) (A1:Option Addr) (n1 c1:Nat) (A2:Option Addr) (n2 c2:Nat),iv = .int .i64 (k:Int)/\k<=n/\AddM w w1.heap.size x y (.slice A1 n1 c1) (.slice A2 n2 c2) wr/\(L.take k).foldl mulQ (1,1) = (x,y)/\x < 4294967296 ^ (k * M + 1)/\y < 4294967296 ^ (k * M + 1)) (fun iv _ => n - (intOf iv).toNat)
 case atStart => exact ⟨0,1,1,B1,i1,e1,B2,i2,e2,rfl,by omega,HM0.out,rfl,by simp,by simp⟩
 case round =>
  clear HM0 hb1 ha1;obtain ⟨k,x,y,A1,n1,c1,A2,n2,c2,rfl,hk,hm,hf,hxs,hys⟩:=hrel;have HM:=qz hm;have HF:=qz hf;have HXS:=qz hxs;have HYS:=qz hys;have t0:wr.cell? ⟨w1.heap.size,0,none⟩ = some (.slice A1 n1 c1):=hm.sum.cell 0;have t1:wr.cell? ⟨w1.heap.size,1,none⟩ = some (.slice A2 n2 c2):=hm.sum.cell 1;have hsl:=hm.sum.lt;clear hm hf hxs hys
  by_cases hkn:k < n
  ·
   obtain ⟨q,hq⟩:∃ q,L[k]? = some q:=⟨_,List.getElem?_eq_getElem (by have:=HL.out; omega)⟩
   obtain ⟨b,o,A3,n3,c3,A4,n4,c4,hA,hbl,d0,d1,hq1,hq2⟩:=(HR.out.below HM.out.below) k q hq;subst hA;have HQ:=qz hq;have HQ1:=qz hq1;have HQ2:=qz hq2;have hk0:(0:Int)<=(k:Int):=by omega
   have hk1:(k:Int) < (n:Int):=by omega
   clear hq hq1 hq2;have hK:k * M<=2000:=Nat.le_trans (Nat.mul_le_mul_right _ hk) HNM.out;obtain ⟨K,hKK⟩:=exq (k * M + 1);rw [hKK] at HXS HYS;have hKb:K<=2100:=by omega
   obtain ⟨E,hE1,hE2⟩:∃ E,2200<=E/\E<=2200:=⟨2200,Nat.le_refl _,Nat.le_refl _⟩
   have HKK:=qz hKK;clear hKK hK;have hba:=b1 wr (.cells #[.slice A3 n3 c3,.slice A4 n4 c4] 46);have hm2:=HM.out.step hba;have g0:(wr.alloc (.cells #[.slice A3 n3 c3,.slice A4 n4 c4] 46)).cell? ⟨wr.heap.size,0,none⟩ = some (.slice A3 n3 c3):=cn0 _ _ _ _
   have g1:(wr.alloc (.cells #[.slice A3 n3 c3,.slice A4 n4 c4] 46)).cell? ⟨wr.heap.size,1,none⟩ = some (.slice A4 n4 c4):=cn1 _ _ _ _;go_upto_region 5 with (fail)
   obtain ⟨g5,hg5⟩:=exq wr.heap.size;obtain ⟨W5,hW5⟩:=exq (wr.alloc (.cells #[.slice A3 n3 c3,.slice A4 n4 c4] 46));have HQ1':=qz (HQ1.out.below hba);have HQ2':=qz (HQ2.out.below hba);have hg5l:g5 < W5.heap.size:=by rw [<- hW5,<- hg5]; simp
   rw [hW5] at hm2 g0 g1 HQ1' HQ2';rw [hg5] at g0 g1 hsl;rw [hg5,hW5];have s0:W5.cell? ⟨w1.heap.size,0,none⟩ = some (.slice A1 n1 c1):=hm2.sum.cell 0;have s1:W5.cell? ⟨w1.heap.size,1,none⟩ = some (.slice A2 n2 c2):=hm2.sum.cell 1;have hsl5:=hm2.sum.lt;have HM2:=qz hm2
   have hov:=mulTwo_r (p:=x) (q:=y) (r:=q.1) (t:=q.2) (M:=E) W5 ((hm2.nx.nr HXS.out).more (by omega)) ((hm2.ny.nr HYS.out).more (by omega)) (HQ1'.out.more (by omega)) (HQ2'.out.more (by omega)) (by omega)
   have hsmall:(mulQ (x,y) q).1 < 4294967296 ^ ((k + 1) * M + 1)/\(mulQ (x,y) q).2 < 4294967296 ^ ((k + 1) * M + 1):=by
    have e:(k + 1) * M + 1 = K + M:=by rw [<- HKK.out,Nat.add_mul]; omega
    have h:=(HR.out k q HQ.out)
    obtain ⟨_,_,_,_,_,_,_,_,_,_,_,_,h5,h6⟩:=h;rw [e];exact ⟨mul_small (div_lt_of HXS.out) (div_lt_of h5.lt),mul_small (div_lt_of HYS.out) (div_lt_of h6.lt)⟩
   have HSM:=qz hsmall;have HOV:=qz hov;clear hW5 hg5 hba hm2 HQ1 HQ2 HM t0 t1 d0 d1 hov hsmall;go_wp2_with fail;refine HOV.out.mono ?_;rintro e w8 ⟨D1,i7,e7,D2,i8,e8,rfl,hx8,hy8,hb8⟩;have hm8:=HM2.out.step hb8;have s80:w8.cell? ⟨w1.heap.size,0,none⟩ = some (.slice A1 n1 c1):=hm8.sum.cell 0
   have s81:w8.cell? ⟨w1.heap.size,1,none⟩ = some (.slice A2 n2 c2):=hm8.sum.cell 1;have f80:=hm8.sum.frozen 0;have f81:=hm8.sum.frozen 1;have HX8:=qz (hx8.more HM2.out.below.size);have HY8:=qz (hy8.more HM2.out.below.size);have HM8:=qz hm8;have hs8:=hm8.sum.lt;clear hx8 hy8 hm8 hb8 HOV s0 s1 g0 g1;go_wp2_with fail;go_roundw
   case rel =>
    have hfar:=HM8.out.far;have s81':(w8.setCell ⟨w1.heap.size,0,none⟩ (.slice D1 i7 e7)).cell? ⟨w1.heap.size,1,none⟩ = some (.slice A2 n2 c2):=(World.cell?_setCell_other _ _ _ _ (by intro e; injection e; omega)).trans s81;refine ⟨k + 1,_,_,D1,i7,e7,D2,i8,e8,by go_num,by omega,⟨?_,?_,put_q HM8.out.sum _ _,?_,?_,hfar⟩,?_,HSM.out.1,HSM.out.2⟩
    · exact (HM8.out.below.setCell (by show w.heap.size<=w1.heap.size; omega) _).setCell (by show w.heap.size<=w1.heap.size; omega) _
    · exact (HM8.out.res.far (by show w.heap.size≠w1.heap.size; omega) _).far (by show w.heap.size≠w1.heap.size; omega) _
    · exact (HX8.out.setS s80).setS s81'
    · exact (HY8.out.setS s80).setS s81'
    · rw [take_snoc_some HQ.out,List.foldl_append,HF.out,List.foldl_cons,List.foldl_nil]
   case measure => simp [intOf]; omega
  ·
   obtain rfl:k = n:=by omega
   have hfin:L.foldl mulQ (1,1) = (x,y):=by have h:=HF.out; rwa [List.take_of_length_le (by have:=HL.out; omega)] at h
   have HFIN:=qz hfin;have k0:wr.cell? ⟨w.heap.size,0,none⟩ = some (.slice none 0 0):=HM.out.res.cell 0;have k1:wr.cell? ⟨w.heap.size,1,none⟩ = some (.slice none 0 0):=HM.out.res.cell 1;have f0:=HM.out.res.frozen 0;have f1:=HM.out.res.frozen 1;clear hfin;go_wp2_with fail;have hp:=put_q HM.out.res (.slice A1 n1 c1) (.slice A2 n2 c2)
   have k1':(wr.setCell ⟨w.heap.size,0,none⟩ (.slice A1 n1 c1)).cell? ⟨w.heap.size,1,none⟩ = some (.slice none 0 0):=(World.cell?_setCell_other _ _ _ _ (by intro e; injection e; omega)).trans k1
   refine bodyPost_ret (v:=.agg #[.slice A1 n1 c1,.slice A2 n2 c2]) (by simp [results,Tryz.results126,go_sem,hp.cell 0,hp.cell 1]) rfl
    ⟨_,_,_,_,_,_,rfl,?_,?_,(HM.out.below.setCell (Nat.le_refl _) _).setCell (Nat.le_refl _) _⟩
   · rw [HFIN.out]; exact (HM.out.nx.setS k0).setS k1'
   · rw [HFIN.out]; exact (HM.out.ny.setS k0).setS k1'
end
section
set_option maxRecDepth 100000
def redQ (n d:Nat):Nat × Nat:=(n / Nat.gcd n d,d / Nat.gcd n d)
def Rt (q:Nat × Nat):Prop:=0 < q.2/\Nat.gcd q.1 q.2 = 1
def addR (s q:Nat × Nat):Nat × Nat:=redQ (s.1 * q.2 + q.1 * s.2) (s.2 * q.2)
def mulR (s q:Nat × Nat):Nat × Nat:=redQ (s.1 * q.1) (s.2 * q.2)
theorem redQ_ex (n d:Nat) (hd:0 < d):∃ g a b,0 < g/\n = g * a/\d = g * b/\Nat.gcd a b = 1/\redQ n d = (a,b)/\0 < b:=by
 have hg:0 < Nat.gcd n d:=Nat.gcd_pos_of_pos_right n hd;refine ⟨Nat.gcd n d,n / Nat.gcd n d,d / Nat.gcd n d,hg,(Nat.mul_div_cancel' (Nat.gcd_dvd_left n d)).symm,(Nat.mul_div_cancel' (Nat.gcd_dvd_right n d)).symm,Nat.coprime_div_gcd_div_gcd hg,rfl,?_⟩;exact Nat.div_pos (Nat.le_of_dvd hd (Nat.gcd_dvd_right n d)) hg
theorem rt_red (n d:Nat) (hd:0 < d):Rt (redQ n d):=by
 obtain ⟨g,a,b,hg,h1,h2,h3,h4,h5⟩:=redQ_ex n d hd;rw [h4]; exact ⟨h5,h3⟩
theorem red_cross (n d:Nat) (hd:0 < d):(redQ n d).1 * d = n * (redQ n d).2:=by
 obtain ⟨g,a,b,hg,h1,h2,h3,h4,h5⟩:=redQ_ex n d hd;rw [h4];show a * d = n * b;rw [h1,h2]; grind
theorem rt_ext {s q:Nat × Nat} (hs:Rt s) (hq:Rt q) (h:s.1 * q.2 = q.1 * s.2):s = q:=by
 obtain ⟨a,b⟩:=s;obtain ⟨c,d⟩:=q;obtain ⟨hb,h1⟩:=hs;obtain ⟨hd,h2⟩:=hq
 replace h:a * d = c * b:=h
 have e1:b ∣ d:=(show Nat.Coprime b a from (Nat.gcd_comm b a).trans h1).dvd_of_dvd_mul_left ⟨c,by rw [h,Nat.mul_comm]⟩;have e2:d ∣ b:=(show Nat.Coprime d c from (Nat.gcd_comm d c).trans h2).dvd_of_dvd_mul_left ⟨a,by rw [<- h,Nat.mul_comm]⟩;obtain rfl:b = d:=Nat.dvd_antisymm e1 e2;rw [Nat.eq_of_mul_eq_mul_right hb h]
theorem red_scale (g n:Nat) {b d:Nat} (hg:0 < g) (h1:Nat.Coprime n b) (h2:Nat.Coprime n d):redQ (g * n) (g * b * (g * d)) = (n / Nat.gcd n g,b * (g * d / Nat.gcd n g)):=by
 have e:Nat.gcd (g * n) (g * b * (g * d)) = g * Nat.gcd n g:=by
  have e1:g * b * (g * d) = g * (b * (d * g)):=by grind
  rw [e1,Nat.gcd_mul_left];rw [Nat.Coprime.gcd_mul_left_cancel_right _ h1.symm,Nat.Coprime.gcd_mul_left_cancel_right _ h2.symm]
 unfold redQ;rw [e];have hk:0 < Nat.gcd n g:=Nat.gcd_pos_of_pos_right n hg;obtain ⟨k,hk1⟩:=Nat.gcd_dvd_left n g;obtain ⟨m,hm1⟩:=Nat.gcd_dvd_right n g;obtain ⟨z,hz⟩:=exq (Nat.gcd n g);rw [hz] at hk hk1 hm1 ⊢;subst hk1;subst hm1
 have p1:z * m * (z * k) / (z * m * z) = k:=by
  rw [<- Nat.mul_assoc (z * m) z k]; exact Nat.mul_div_cancel_left _ (Nat.mul_pos hg hk)
 have p2:z * m * b * (z * m * d) / (z * m * z) = b * (m * d):=by
  have:z * m * b * (z * m * d) = (z * m * z) * (b * (m * d)):=by grind
  rw [this]; exact Nat.mul_div_cancel_left _ (Nat.mul_pos hg hk)
 have p3:z * k / z = k:=Nat.mul_div_cancel_left _ hk;have p4:z * m * d / z = m * d:=by rw [Nat.mul_assoc]; exact Nat.mul_div_cancel_left _ hk
 rw [p1,p2,p3,p4]
theorem gcd_parts {b d:Nat} (hb:0 < b):∃ g b' d',0 < g/\Nat.gcd b d = g/\b = g * b'/\d = g * d'/\b / g = b'/\d / g = d'/\Nat.Coprime b' d':=by
 have hg:0 < Nat.gcd b d:=Nat.gcd_pos_of_pos_left d hb;exact ⟨_,_,_,hg,rfl,(Nat.mul_div_cancel' (Nat.gcd_dvd_left b d)).symm,(Nat.mul_div_cancel' (Nat.gcd_dvd_right b d)).symm,rfl,rfl,Nat.coprime_div_gcd_div_gcd hg⟩
theorem cop_of {a b:Nat} (h:∀ k,k ∣ a->k ∣ b->k ∣ 1):Nat.Coprime a b:=Nat.dvd_one.1 (h _ (Nat.gcd_dvd_left a b) (Nat.gcd_dvd_right a b))
theorem addQ_eq {s q:Nat × Nat} (hs:Rt s) (hq:Rt q):addQ s q = addR s q:=by
 obtain ⟨a,b⟩:=s;obtain ⟨c,d⟩:=q;obtain ⟨hb,h1⟩:=hs;obtain ⟨hd,h2⟩:=hq
 replace h1:Nat.Coprime a b:=h1
 replace h2:Nat.Coprime c d:=h2
 obtain ⟨g,b',d',hg,hgg,rfl,rfl,hb',hd',hc⟩:=gcd_parts (b:=b) (d:=d) hb;unfold addQ addR;simp only [hgg,hb',hd'];have e1:a * (g * d') + c * (g * b') = g * (a * d' + c * b'):=by grind
 rw [e1];have ca:Nat.Coprime a b':=Nat.Coprime.coprime_dvd_right ⟨g,Nat.mul_comm _ _⟩ h1;have cc:Nat.Coprime c d':=Nat.Coprime.coprime_dvd_right ⟨g,Nat.mul_comm _ _⟩ h2
 have n1:Nat.Coprime (a * d' + c * b') b':=cop_of fun k hk hb => by
  have:k ∣ a * d':=(Nat.dvd_add_left (Nat.dvd_mul_left_of_dvd hb c)).1 hk;exact (Nat.Coprime.mul_left ca hc.symm:Nat.gcd (a * d') b' = 1) ▸ Nat.dvd_gcd this hb
 have n2:Nat.Coprime (a * d' + c * b') d':=cop_of fun k hk hd => by
  have:k ∣ c * b':=(Nat.dvd_add_right (Nat.dvd_mul_left_of_dvd hd a)).1 hk;exact (Nat.Coprime.mul_left cc hc:Nat.gcd (c * b') d' = 1) ▸ Nat.dvd_gcd this hd
 exact (red_scale g _ hg n1 n2).symm
theorem mulQ_eq {s q:Nat × Nat} (hs:Rt s) (hq:Rt q):mulQ s q = mulR s q:=by
 obtain ⟨a,b⟩:=s;obtain ⟨c,d⟩:=q;obtain ⟨hb,h1⟩:=hs;obtain ⟨hd,h2⟩:=hq
 replace h1:Nat.Coprime a b:=h1
 replace h2:Nat.Coprime c d:=h2
 obtain ⟨g,d',a',hg,hgg,rfl,rfl,hd',ha',hc⟩:=gcd_parts (b:=d) (d:=a) hd;obtain ⟨k,b',c',hk,hkk,rfl,rfl,hb',hc',hc2⟩:=gcd_parts (b:=b) (d:=c) hb;unfold mulQ mulR redQ;rw [Nat.gcd_comm] at hgg hkk;simp only [hgg,hkk,hb',hc',hd',ha']
 have x1:Nat.Coprime a' b':=Nat.Coprime.coprime_dvd_right ⟨k,Nat.mul_comm _ _⟩ (Nat.Coprime.coprime_dvd_left ⟨g,Nat.mul_comm _ _⟩ h1);have x2:Nat.Coprime c' d':=Nat.Coprime.coprime_dvd_right ⟨g,Nat.mul_comm _ _⟩ (Nat.Coprime.coprime_dvd_left ⟨k,Nat.mul_comm _ _⟩ h2)
 have x3:Nat.Coprime (a' * c') (b' * d'):=Nat.Coprime.mul_left (Nat.Coprime.mul_right x1 hc.symm) (Nat.Coprime.mul_right hc2.symm x2);have e1:g * a' * (k * c') = (g * k) * (a' * c'):=by grind
 have e2:k * b' * (g * d') = (g * k) * (b' * d'):=by grind
 have e3:Nat.gcd (g * a' * (k * c')) (k * b' * (g * d')) = g * k:=by rw [e1,e2,Nat.gcd_mul_left,x3,Nat.mul_one]
 rw [e3,e1,e2,Nat.mul_div_cancel_left _ (Nat.mul_pos hg hk),Nat.mul_div_cancel_left _ (Nat.mul_pos hg hk)]
end
section
open Go.RowKit
set_option maxRecDepth 100000
theorem ratsN2 {W:World} {g M:Nat} {A1 A2 A3 A4:Option Addr} {n1 c1 n2 c2 n3 c3 n4 c4 a b c d:Nat} (hk:Blk W g 46 #[.slice A1 n1 c1,.slice A2 n2 c2,.slice A3 n3 c3,.slice A4 n4 c4])
  (h1:Nr W (.slice A1 n1 c1) a M) (h2:Nr W (.slice A2 n2 c2) b M) (h3:Nr W (.slice A3 n3 c3) c M) (h4:Nr W (.slice A4 n4 c4) d M) :
  Rats W W.heap.size (some ⟨g,0,none⟩) [(a,b),(c,d)] M:=by
 intro k q hq
 match k,hq with
 | 0,hq =>
  obtain rfl:(a,b) = q:=by simpa using hq
  exact ⟨_,0,A1,n1,c1,A2,n2,c2,rfl,hk.lt,hk.cell 0,hk.cell 1,h1,h2⟩
 | 1,hq =>
  obtain rfl:(c,d) = q:=by simpa using hq
  exact ⟨_,0,A3,n3,c3,A4,n4,c4,rfl,hk.lt,hk.cell 2,hk.cell 3,h3,h4⟩
 | k + 2,hq => simp at hq
def vq18 (q:Nat × Nat):Rat:=(q.1:Rat) / (q.2:Rat)
theorem nz18 {n:Nat} (h:0 < n):(n:Rat)≠0:=fun e => by
 have:n = 0:=by exact_mod_cast e
 omega
theorem vq18_cross {a b c d:Nat} (hb:0 < b) (hd:0 < d) (h:a * d = c * b):(a:Rat) / (b:Rat) = (c:Rat) / (d:Rat):=by
 have h1:(a:Rat) * (d:Rat) = (c:Rat) * (b:Rat):=by exact_mod_cast h
 have:=nz18 hb;have:=nz18 hd
 grind
theorem vq18_uncross {a b c d:Nat} (hb:0 < b) (hd:0 < d) (h:(a:Rat) / (b:Rat) = (c:Rat) / (d:Rat)):a * d = c * b:=by
 have:=nz18 hb;have:=nz18 hd;have h1:(a:Rat) * (d:Rat) = (c:Rat) * (b:Rat):=by grind
 exact_mod_cast h1
theorem vq18_red {n d:Nat} (hd:0 < d):vq18 (redQ n d) = (n:Rat) / (d:Rat):=vq18_cross (rt_red n d hd).1 hd (red_cross n d hd)
theorem vq18_ext {s q:Nat × Nat} (hs:Rt s) (hq:Rt q) (h:vq18 s = vq18 q):s = q:=rt_ext hs hq (vq18_uncross hs.1 hq.1 h)
theorem vq18_add {s q:Nat × Nat} (hs:Rt s) (hq:Rt q):Rt (addR s q)/\vq18 (addR s q) = vq18 s + vq18 q:=by
 have hp:=Nat.mul_pos hs.1 hq.1;refine ⟨rt_red _ _ hp,?_⟩;unfold addR;rw [vq18_red hp];have:=nz18 hs.1;have:=nz18 hq.1;unfold vq18;have e1:((s.1 * q.2 + q.1 * s.2:Nat):Rat) = (s.1:Rat) * (q.2:Rat) + (q.1:Rat) * (s.2:Rat):=by push_cast; rfl
 have e2:((s.2 * q.2:Nat):Rat) = (s.2:Rat) * (q.2:Rat):=by push_cast; rfl
 rw [e1,e2]
 grind
theorem vq18_mul {s q:Nat × Nat} (hs:Rt s) (hq:Rt q):Rt (mulR s q)/\vq18 (mulR s q) = vq18 s * vq18 q:=by
 have hp:=Nat.mul_pos hs.1 hq.1;refine ⟨rt_red _ _ hp,?_⟩;unfold mulR;rw [vq18_red hp];have:=nz18 hs.1;have:=nz18 hq.1;unfold vq18;have e1:((s.1 * q.1:Nat):Rat) = (s.1:Rat) * (q.1:Rat):=by push_cast; rfl
 have e2:((s.2 * q.2:Nat):Rat) = (s.2:Rat) * (q.2:Rat):=by push_cast; rfl
 rw [e1,e2]
 grind
theorem rt18_nat (n:Nat):Rt (n,1)/\vq18 (n,1) = (n:Rat):=⟨⟨Nat.one_pos,Nat.gcd_one_right n⟩,by unfold vq18; simp; grind⟩
theorem rt18_of {n d:Nat} (hd:0 < d):Rt (n / Nat.gcd n d,d / Nat.gcd n d)/\vq18 (n / Nat.gcd n d,d / Nat.gcd n d) = (n:Rat) / (d:Rat):=⟨rt_red n d hd,vq18_red hd⟩
theorem small18 {q:Nat × Nat} {P N:Nat} (hq:Rt q) (hP:0 < P) (h:vq18 q * (P:Rat) = (N:Rat)):q.2<=P/\q.1<=N:=by
 have hz:=nz18 hq.1
 have h1:(q.1:Rat) * (P:Rat) = (N:Rat) * (q.2:Rat):=by
  unfold vq18 at h
  grind
 have h2:q.1 * P = N * q.2:=by exact_mod_cast h1
 have h3:Nat.Coprime q.2 q.1:=(Nat.gcd_comm _ _).trans hq.2;have h4:q.2 ∣ P:=h3.dvd_of_dvd_mul_left ⟨N,by rw [h2,Nat.mul_comm]⟩;obtain ⟨k,hk⟩:=h4;refine ⟨Nat.le_of_dvd hP ⟨k,hk⟩,?_⟩;have hk0:0 < k:=Nat.pos_of_ne_zero (fun e => by rw [hk,e] at hP; simp at hP)
 have h5:q.1 * k = N:=by
  refine Nat.eq_of_mul_eq_mul_left hq.1 ?_;rw [Nat.mul_comm q.2 N,<- h2,hk]
  grind
 rw [<- h5];exact Nat.le_mul_of_pos_right _ hk0
theorem fit18 {S:Sv14} (hf:Fine14 S) {x:Rat} {q:Nat × Nat} (hq:Rt q) (hx:vq18 q = x) (h:Prt18 (pa18 S) x) (m:Nat) (hm:m<=100) (hle:x<=(m:Rat) * ((96 ^ 16 * 134217728:Nat):Rat)):q.1 < 4294967296 ^ 18/\q.2 < 4294967296 ^ 18:=by
 obtain ⟨N,hN⟩:=h;rw [<- hx] at hN hle;have hP:=pa18_pos S;have hPl:=pa18_le hf;obtain ⟨h1,h2⟩:=small18 hq hP hN;obtain ⟨X,hX⟩:∃ X:Nat,96 ^ 16 * 134217728 = X:=⟨_,rfl⟩
 rw [hX] at hle;have hP0:(0:Rat)<=(pa18 S:Rat):=by exact_mod_cast Nat.zero_le _
 have h3:=Rat.mul_le_mul_of_nonneg_right hle hP0;rw [hN] at h3;have h4:N<=m * X * pa18 S:=by exact_mod_cast h3
 have h5:m * X * pa18 S<=100 * X * 134217728 ^ 16:=Nat.mul_le_mul (Nat.mul_le_mul_right _ hm) hPl;have h6:100 * X * 134217728 ^ 16 < 4294967296 ^ 18:=by rw [<- hX]; decide
 have h7:134217728 ^ 16 < 4294967296 ^ 18:=by decide
 omega
def Tl16 (S:Sv14) (i:Int) (l:List Nat):Prop:=(us14 usH S.H i = false/\l = [])\/(us14 usH S.H i = true/\∃ k:Nat,i = (k:Int)/\Chn16 S k l)
theorem Tl16.no {S:Sv14} {i:Int} {l:List Nat} (h:Tl16 S i l) (hu:us14 usH S.H i = false):l = []:=by
 rcases h with h | h
 · exact h.2
 · rw [hu] at h; cases h.1
theorem tl16_neg (S:Sv14):us14 usH S.H (-1) = false:=by
 cases h:us14 usH S.H (-1) with
 | false => rfl
 | true => have:=ush16_lt h; omega
theorem tl16_ex {S:Sv14} (hf:Fine14 S) (i:Int):∃ l,Tl16 S i l:=by
 cases hu:us14 usH S.H i with
 | false => exact ⟨[],.inl ⟨hu,rfl⟩⟩
 | true =>
  have h1:=ush16_lt hu;obtain ⟨k,rfl⟩:∃ k:Nat,i = (k:Int):=⟨i.toNat,by omega⟩
  obtain ⟨l,hl⟩:=chn16_ex hf (i:=k) (by omega);exact ⟨l,.inr ⟨hu,k,rfl,hl⟩⟩
theorem Tl16.chn {S:Sv14} {k:Nat} {l:List Nat} (h:Tl16 S (k:Int) l) (hu:us14 usH S.H (k:Int) = true):Chn16 S k l:=by
 rcases h with h | ⟨_,j,h1,h2⟩
 · rw [hu] at h; cases h.1
 ·
  obtain rfl:k = j:=by omega
  exact h2
theorem Tl16.cons {S:Sv14} {i:Int} {l:List Nat} (hf:Fine14 S) (h:Tl16 S i l) (hu:us14 usH S.H i = true):∃ (k:Nat) (r:List Nat),i = (k:Int)/\l = k :: r/\Tl16 S (nxt16 S i) r:=by
 rcases h with h | ⟨_,k,rfl,h⟩
 · rw [hu] at h; cases h.1
 ·
  cases h with
  | one h1 => exact ⟨k,[],rfl,rfl,.inl ⟨by rw [h1]; exact tl16_neg S,rfl⟩⟩
  | @step _ j r h1 h2 =>
   refine ⟨k,r,rfl,rfl,.inr ⟨?_,j,h1,h2⟩⟩;rcases nxt16_used hf (k:Int) with h3 | h3
   · omega
   · exact h3.1
theorem Tl16.len {S:Sv14} {i:Int} {l:List Nat} (hf:Fine14 S) (h:Tl16 S i l):l.length<=S.H.length:=by
 rcases h with h | ⟨h0,k,rfl,h2⟩
 · rw [h.2]; simp
 ·
  have:=ush16_lt h0;exact h2.len hf (by omega)
theorem Tl16.used {S:Sv14} {i:Int} {l:List Nat} (hf:Fine14 S) (h:Tl16 S i l) {x:Nat} (hx:x∈l):us14 usH S.H (x:Int) = true:=by
 rcases h with h | ⟨h0,k,rfl,h2⟩
 · rw [h.2] at hx; simp at hx
 · exact h2.used hf h0 x hx
theorem Tl16.nil {S:Sv14} {i:Int} {l:List Nat} (h:Tl16 S i l):l = []↔us14 usH S.H i = false:=by
 rcases h with h | ⟨h0,k,rfl,h2⟩
 · exact ⟨fun _ => h.1,fun _ => h.2⟩
 · rw [h0]; exact ⟨fun e => absurd e h2.ne,fun e => by cases e⟩
def en16 (l:List Nat):Int:=if l = [] then -1 else ((lst16 l:Nat):Int)
theorem Tl16.en {S:Sv14} {i:Int} {l:List Nat} (h:Tl16 S i l) (hu:us14 usH S.H i = true):en16 l = ((lst16 l:Nat):Int)/\nxt16 S (en16 l) = -1/\lst16 l∈l:=by
 rcases h with h | ⟨h0,k,rfl,h2⟩
 · rw [hu] at h; cases h.1
 ·
  have e:en16 l = ((lst16 l:Nat):Int):=if_neg h2.ne;exact ⟨e,by rw [e]; exact h2.end_.1,h2.end_.2⟩
theorem en16_no {l:List Nat} (h:l = []):en16 l = -1:=if_pos h
theorem en16_used {S:Sv14} {i:Int} {l:List Nat} (hf:Fine14 S) (h:Tl16 S i l):us14 usH S.H (en16 l) = us14 usH S.H i:=by
 cases hu:us14 usH S.H i with
 | false => rw [en16_no (h.no hu)]; exact tl16_neg S
 | true => rw [(h.en hu).1]; exact h.used hf (h.en hu).2.2
def lv16 (S:Sv14) (e:Int):Bool:=(at14 usH S.H e).s == 2 || (at14 usH S.H e).s == 3
theorem lv16_no {S:Sv14} {e:Int} (h:us14 usH S.H e = false):lv16 S e = false:=by
 rw [lv16,at14_no h]; rfl
noncomputable def bhb16 (S:Sv14) (i:Int) (near:Bool) (k:Nat):Bool:=us14 usH S.H i && (if near then decide (nxt16 S (k:Int) = i) else wayb (Ta16 S) k i.toNat)
noncomputable def bh16 (S:Sv14) (i:Int) (near:Bool):List Nat:=all11 (bhb16 S i near) S.H.length
theorem bh16_len (S:Sv14) (i:Int) (near:Bool):(bh16 S i near).length<=S.H.length:=all11_len _ _
theorem way16_to {S:Sv14} (hf:Fine14 S) {a b:Nat} (h:Way (Ta16 S) a b):us14 usH S.H (a:Int) = true/\us14 usH S.H (b:Int) = true:=by
 have one:∀ {a b:Nat},(a,b)∈Ta16 S->us14 usH S.H (a:Int) = true/\us14 usH S.H (b:Int) = true:=by
  intro a b h;have h1:=((ta16_mem hf).1 h).2;rcases nxt16_used hf (a:Int) with h2 | h2
  · omega
  ·
   rw [h1] at h2;refine ⟨?_,h2.1⟩
   cases hu:us14 usH S.H (a:Int) with
   | true => rfl
   | false => rw [nxt16_no hu] at h1; omega
 induction h with
 | one h => exact one h
 | step _ h ih => exact ⟨ih.1,(one h).2⟩
theorem way16_ring {S:Sv14} (hf:Fine14 S) (a:Nat):¬ Way (Ta16 S) a a:=fun h => free15_ring.1 hf.2.2.2.2.2.2.2.2.2 ⟨a,h⟩
theorem bhb16_chain {S:Sv14} (hf:Fine14 S) {i:Int} {k:Nat} {l:List Nat} (h:Tl16 S (k:Int) l):bhb16 S i false k = true↔(k:Int)≠i/\∃ x,x∈l/\i = ((x:Nat):Int):=by
 rw [bhb16,Bool.and_eq_true,if_neg (by decide),wayb_yes];constructor
 ·
  rintro ⟨hu,hw⟩;have h1:=ush16_lt hu;obtain ⟨j,rfl⟩:∃ j:Nat,i = (j:Int):=⟨i.toNat,by omega⟩
  rw [Int.toNat_natCast] at hw;have hk:=(way16_to hf hw).1;have hkl:=ush16_lt hk;refine ⟨fun e => ?_,j,(((h.chn hk).way hf (by omega) j).2 (.inr hw)),rfl⟩;obtain rfl:k = j:=by omega
  exact way16_ring hf k hw
 ·
  rintro ⟨hn,x,hx,rfl⟩;have hu:=h.used hf hx;refine ⟨hu,?_⟩;rw [Int.toNat_natCast]
  have hk:us14 usH S.H (k:Int) = true:=by
   cases hk:us14 usH S.H (k:Int) with
   | true => rfl
   | false => rw [h.no hk] at hx; simp at hx
  have hkl:=ush16_lt hk;rcases ((h.chn hk).way hf (by omega) x).1 hx with e | e
  · exact absurd (by rw [e]) hn
  · exact e
end
section
open Go.RowKit
set_option maxRecDepth 100000
open Classical in
noncomputable def livb17 (S:Sv14) (i:Int):Bool:=decide (Liv16 S i)
theorem livb17_yes {S:Sv14} {i:Int}:livb17 S i = true↔Liv16 S i:=by
 unfold livb17;exact @decide_eq_true_iff _ (Classical.propDecidable _)
theorem lv17_of {S:Sv14} {i:Int} {l:List Nat} (hf:Fine14 S) (h:Tl16 S i l):lv16 S (en16 l) = livb17 S i:=by
 rw [Bool.eq_iff_iff,livb17_yes]
 cases hu:us14 usH S.H i with
 | false =>
  rw [h.no hu,en16_no rfl,lv16_no (tl16_neg S)];constructor
  · intro h; cases h
  ·
   rintro ⟨_,_,_,h2,_⟩;rw [hu] at h2
   cases h2
 | true =>
  have hue:=(en16_used hf h).trans hu;have hin:=ush16_lt hu;obtain ⟨k,rfl⟩:∃ k:Nat,i = (k:Int):=⟨i.toNat,by omega⟩
  have hc:=h.chn hu;have he:=(h.en hu).1;rw [he] at hue;rw [he,lv16,at14_yes hue,Int.toNat_natCast,Bool.or_eq_true,beq_iff_eq,beq_iff_eq];constructor
  · exact fun h3 => ⟨k,l,rfl,hu,hc,h3⟩
  ·
   rintro ⟨k2,l2,e,_,c2,h3⟩;obtain rfl:k = k2:=by omega
   rwa [hc.same c2]
def aw17 (n:Nat) (Am:Nat->Nat) (t:Int):Bool:=decide (0<=t/\t < (n:Int)) && decide (0 < Am t.toNat)
theorem aw17_in {n:Nat} {Am:Nat->Nat} {k:Nat} (h:k < n):aw17 n Am (k:Int) = decide (0 < Am k):=by
 rw [aw17,decide_eq_true (by omega),Bool.true_and,Int.toNat_natCast]
theorem aw17_out {n:Nat} {Am:Nat->Nat} {t:Int} (h:¬ (0<=t/\t < (n:Int))):aw17 n Am t = false:=by
 rw [aw17,decide_eq_false h,Bool.false_and]
noncomputable def lts17 (S:Sv14) (n:Nat) (Am:Nat->Nat) (k t:Int):Bool:=if k = 1 then livb17 S t else if k = 2 then aw17 n Am t else false
noncomputable def amn17 (S:Sv14) (c:Int):Nat:=(amt17 S c S.T.length).toNat
theorem amn17_int {S:Sv14} (hT:Tickets14 S) (c:Int):((amn17 S c:Nat):Int) = amt17 S c S.T.length:=by
 have:=amt17_bound hT c S.T.length;unfold amn17;omega
theorem cnt17_lets {S:Sv14} (hT:Tickets14 S) {j:Nat} (hj:j < S.T.length) (hu:(gt14 S.T j).u = true) {Am:Nat->Nat} (hA:(gt14 S.T j).k = 2->Am (gt14 S.T j).t.toNat = amn17 S (gt14 S.T j).t) :
  cntb17 S j = ((gt14 S.T j).o && lts17 S S.C.length Am (gt14 S.T j).k (gt14 S.T j).t):=by
 rw [Bool.eq_iff_iff,cntb17_yes,cnt17_iff,Bool.and_eq_true,lts17];by_cases h1:(gt14 S.T j).k = 1
 ·
  rw [if_pos h1,livb17_yes];constructor
  ·
   rintro ⟨_,_,h3,⟨_,h5⟩ | ⟨h4,_⟩⟩
   · exact ⟨h3,h5⟩
   · omega
  ·
   rintro ⟨h3,h5⟩;exact ⟨hj,hu,h3,.inl ⟨h1,h5⟩⟩
 ·
  rw [if_neg h1];by_cases h2:(gt14 S.T j).k = 2
  ·
   rw [if_pos h2];have htg:=(hT j hj hu).2.2.2
   have huc:us14 usC S.C (gt14 S.T j).t = true:=by
    rcases htg with h | h | h
    · omega
    · omega
    · exact h.2.2
   have hin:=us15_lt huc;have hm:=amn17_int hT (gt14 S.T j).t;rw [aw17,decide_eq_true hin,Bool.true_and,decide_eq_true_iff,hA h2];have hall:=amt17_all hT (gt14 S.T j).t;constructor
   ·
    rintro ⟨_,_,h3,⟨h4,_⟩ | ⟨_,h5⟩⟩
    · omega
    ·
     have:=hall.2 h5;exact ⟨h3,by omega⟩
   ·
    rintro ⟨h3,h5⟩;exact ⟨hj,hu,h3,.inr ⟨h2,hall.1 (by omega)⟩⟩
  ·
   rw [if_neg h2];constructor
   ·
    rintro ⟨_,_,_,⟨h4,_⟩ | ⟨h4,_⟩⟩
    · exact absurd h4 h1
    · exact absurd h4 h2
   ·
    rintro ⟨_,h⟩;cases h
theorem amt17_no {S:Sv14} (hT:Tickets14 S) {c:Int} (hu:us14 usC S.C c = false):∀ n,amt17 S c n = 0
 | 0 => rfl
 | n + 1 => by
  rw [amt17,amt17_no hT hu n,if_neg]
  · rfl
  ·
   rintro ⟨h1,h2⟩;have h3:=(cntb17_yes.1 h2).lt;have h4:=(hT n h3.1 h3.2).1;rw [h1,hu] at h4;cases h4
theorem amn17_no {S:Sv14} (hT:Tickets14 S) {c:Int} (hu:us14 usC S.C c = false):amn17 S c = 0:=by
 rw [amn17,amt17_no hT hu];rfl
noncomputable def adt17 (S:Sv14) (l:List Nat) (M:Nat->Bool):Nat->Nat->Bool
 | 0 => M
 | i + 1 => if cntb17 S (nth l i) = true then upd (adt17 S l M i) (nth l i) true else adt17 S l M i
noncomputable def ada17 (S:Sv14) (l:List Nat):Nat->Nat
 | 0 => 0
 | i + 1 => ada17 S l i + if cntb17 S (nth l i) = true then (gt14 S.T (nth l i)).a.toNat else 0
theorem adt17_end {S:Sv14} {l:List Nat} {M:Nat->Bool}:∀ {i:Nat},i<=l.length->∀ y,adt17 S l M i y = (M y || (decide (y∈l.take i) && cntb17 S y))
 | 0,_,y => by simp [adt17]
 | i + 1,h,y => by
  have ih:=adt17_end (S:=S) (l:=l) (M:=M) (i:=i) (by omega) y;rw [adt17,take15_next (by omega)];by_cases hy:y = nth l i
  ·
   subst hy;by_cases hc:cntb17 S (nth l i) = true
   ·
    rw [if_pos hc,upd_at,hc];simp
   ·
    rw [if_neg hc,ih];rw [Bool.not_eq_true] at hc;simp [hc]
  ·
   by_cases hc:cntb17 S (nth l i) = true
   ·
    rw [if_pos hc,upd_far _ _ hy,ih];simp [hy]
   ·
    rw [if_neg hc,ih];simp [hy]
theorem ada17_bound {S:Sv14} (hT:Tickets14 S) (l:List Nat) (i:Nat):ada17 S l i<=i * 1048576:=by
 induction i with
 | zero => exact Nat.zero_le _
 | succ i ih =>
  rw [ada17,Nat.succ_mul];obtain ⟨K,hK⟩:=exq (i * 1048576);rw [hK] at ih ⊢;split
  ·
   next h =>
   have h1:=(cntb17_yes.1 h).lt;have h2:=(hT _ h1.1 h1.2).2.2.1;omega
  · omega
theorem ada17_low {S:Sv14} {l r:List Nat}:∀ {i:Nat},i<=l.length->ada17 S (l ++ r) i = ada17 S l i
 | 0,_ => rfl
 | i + 1,h => by rw [ada17,ada17,ada17_low (by omega),nth15_low (by omega)]
theorem tks17_next (S:Sv14) (p:Tk14->Bool) (n:Nat):tks15 S p (n + 1) = tks15 S p n ++ if ((gt14 S.T n).u && p (gt14 S.T n)) = true then [n] else []:=all11_next _ _
theorem ada17_all {S:Sv14} (hT:Tickets14 S) (c:Int):∀ n,((ada17 S (tks15 S (isw15 c) n) (tks15 S (isw15 c) n).length:Nat):Int) = amt17 S c n
 | 0 => rfl
 | n + 1 => by
  have ih:=ada17_all hT c n;rw [tks17_next,amt17];by_cases hp:((gt14 S.T n).u && isw15 c (gt14 S.T n)) = true
  ·
   rw [if_pos hp,List.length_append,List.length_singleton,ada17,ada17_low (Nat.le_refl _),nth15_at rfl];rw [Bool.and_eq_true,isw15,decide_eq_true_iff] at hp;by_cases hc:cntb17 S n = true
   ·
    rw [if_pos hc,if_pos ⟨hp.2,hc⟩];have h1:=(cntb17_yes.1 hc).lt;have h2:=(hT _ h1.1 h1.2).2.1;omega
   ·
    rw [if_neg hc,if_neg (fun h => hc h.2)];omega
  ·
   rw [if_neg hp,List.append_nil,ih,if_neg]
   · omega
   ·
    rintro ⟨h1,h2⟩;refine hp ?_;rw [Bool.and_eq_true,isw15,decide_eq_true_iff];exact ⟨(cntb17_yes.1 h2).lt.2,h1⟩
theorem isd17_mem {S:Sv14} {c:Int} (hu:us14 usC S.C c = true) {j:Nat}:j∈isd15 S c↔j < S.T.length/\(gt14 S.T j).u = true/\(gt14 S.T j).c = c:=by
 rw [isd15,if_pos hu,tks15_mem,isw15,decide_eq_true_iff]
theorem isd17_len (S:Sv14) (c:Int):(isd15 S c).length<=S.T.length:=by
 unfold isd15;split
 · exact tks15_len _ _ _
 · simp
theorem ada17_isd {S:Sv14} (hT:Tickets14 S) {c:Int} (hu:us14 usC S.C c = true):ada17 S (isd15 S c) (isd15 S c).length = amn17 S c:=by
 have h:=ada17_all hT c S.T.length;have h2:=amn17_int hT c;rw [isd15,if_pos hu];omega
theorem ord17_nodup {S:Sv14} {os:List Nat} (hd:Told13 (Ca15 S) S.C.length os):(ord15 S os).Nodup:=hd.nodup.filter _
theorem ord17_in {S:Sv14} {os:List Nat} (hd:Told13 (Ca15 S) S.C.length os) (hl:os.length = S.C.length) {x:Nat}:x∈ord15 S os↔us14 usC S.C (x:Int) = true:=by
 constructor
 · exact fun h => (List.mem_filter.1 h).2
 ·
  intro h;have hin:=us15_lt h;exact List.mem_filter.2 ⟨full13 _ os hd.nodup hd.lt hl x (by omega),h⟩
theorem nth17_inj {l:List Nat} (h:l.Nodup) {a b:Nat} (ha:a < l.length) (hb:b < l.length) (e:nth l a = nth l b):a = b:=by
 rw [nth_in ha,nth_in hb] at e;exact (List.getElem_inj h).1 e
theorem mem17_drop {l:List Nat} {d k:Nat} (hk:k < l.length) (h:d<=k):nth l k∈l.drop d:=by
 rw [nth_in hk];refine List.mem_iff_getElem.2 ⟨k - d,by rw [List.length_drop]; omega,?_⟩;rw [List.getElem_drop]
 congr 1
 omega
theorem drop17_next {l:List Nat} {d:Nat} (h:d < l.length):l.drop d = nth l d :: l.drop (d + 1):=by
 rw [List.drop_eq_getElem_cons h,nth_in h]
theorem drop17_not {l:List Nat} (hn:l.Nodup) {d:Nat} (h:d < l.length):nth l d ∉ l.drop (d + 1):=by
 have h2:=(List.drop_sublist d l).nodup hn;rw [drop17_next h] at h2;exact (List.nodup_cons.1 h2).1
theorem ord17_behind {S:Sv14} {os:List Nat} (hT:Tickets14 S) (hd:Told13 (Ca15 S) S.C.length os) (hl:os.length = S.C.length) {d:Nat} (hdl:d < (ord15 S os).length) {j:Nat} (hj:j < S.T.length) (hu:(gt14 S.T j).u = true) (hk:(gt14 S.T j).k = 2)
  (hc:(gt14 S.T j).c = ((nth (ord15 S os) d:Nat):Int)):(gt14 S.T j).t.toNat∈(ord15 S os).drop (d + 1):=by
 have htk:=hT j hj hu
 have huc:us14 usC S.C (gt14 S.T j).t = true:=by
  rcases htk.2.2.2 with h | h | h
  · omega
  · omega
  · exact h.2.2
 have hin:=us15_lt huc;have hti:(((gt14 S.T j).t.toNat:Nat):Int) = (gt14 S.T j).t:=by omega
 have hm:(gt14 S.T j).t.toNat∈ord15 S os:=(ord17_in hd hl).2 (by rw [hti]; exact huc);obtain ⟨k,hkl,hke⟩:=List.mem_iff_getElem.1 hm;rw [<- nth_in hkl] at hke;have hcin:=us15_lt htk.1
 have hpre:=told15_pre hd (fun y => us14 usC S.C (y:Int)) k hkl (nth (ord15 S os) d) (by
  rw [show nth (os.filter fun (y:Nat) => us14 usC S.C (y:Int)) k = (gt14 S.T j).t.toNat from hke,ca15_mem];exact ⟨⟨j,⟨hj,hu,hk,hti.symm⟩,hc⟩,by omega,by omega⟩) (by
  show us14 usC S.C ((nth (ord15 S os) d:Nat):Int) = true;rw [<- hc]
  exact htk.1)
 obtain ⟨q,hq,hqe⟩:=List.mem_iff_getElem.1 hpre;rw [List.length_take] at hq;rw [List.getElem_take,<- nth_in] at hqe;have hqd:q = d:=nth17_inj (ord17_nodup hd) (show q < (ord15 S os).length by have:(ord15 S os).length = (os.filter fun (y:Nat) => us14 usC S.C (y:Int)).length:=rfl; omega) hdl hqe;rw [<- hke];exact mem17_drop hkl (by omega)
def Lb17 (S:Sv14) (ns:List Nat) (d:Nat) (M:Nat->Bool) (Am:Nat->Nat):Prop:=(∀ j,M j = (decide ((gt14 S.T j).c.toNat∈ns.drop d) && cntb17 S j))/\∀ x,Am x = if x∈ns.drop d then amn17 S ((x:Nat):Int) else 0
theorem lb17_start (S:Sv14) (ns:List Nat) {m:Nat} (h:ns.length = m):Lb17 S ns m (fun _ => false) (fun _ => 0):=by
 subst h;constructor
 ·
  intro j;simp
 ·
  intro x;simp
theorem Lb17.pre {S:Sv14} {os:List Nat} {d:Nat} {M:Nat->Bool} {Am:Nat->Nat} (hT:Tickets14 S) (hd:Told13 (Ca15 S) S.C.length os) (hl:os.length = S.C.length) (hdl:d < (ord15 S os).length) (h:Lb17 S (ord15 S os) (d + 1) M Am) {c:Nat} (hc:nth (ord15 S os) d = c) :
  Am c = 0/\∀ j,j∈isd15 S (c:Int)->∀ z,cntb17 S j = ((gt14 S.T j).o && lts17 S S.C.length (upd Am c z) (gt14 S.T j).k (gt14 S.T j).t):=by
 have hu:us14 usC S.C (c:Int) = true:=by rw [<- hc]; exact ord15_used hdl
 have hn:=drop17_not (ord17_nodup hd) hdl;rw [hc] at hn;refine ⟨by rw [h.2,if_neg hn],fun j hj z => ?_⟩;obtain ⟨h1,h2,h3⟩:=(isd17_mem hu).1 hj;refine cnt17_lets hT h1 h2 (fun hk => ?_);have hb:=ord17_behind hT hd hl hdl h1 h2 hk (by rw [hc]; exact h3);have hne:(gt14 S.T j).t.toNat≠c:=fun e => hn (by rw [<- e]; exact hb)
 have htk:=(hT j h1 h2).2.2.2
 have huc:us14 usC S.C (gt14 S.T j).t = true:=by
  rcases htk with h | h | h
  · omega
  · omega
  · exact h.2.2
 have hin:=us15_lt huc;rw [upd_far _ _ hne,h.2,if_pos hb]
 congr 1
 omega
theorem Lb17.next {S:Sv14} {os:List Nat} {d:Nat} {M:Nat->Bool} {Am:Nat->Nat} (hT:Tickets14 S) (hd:Told13 (Ca15 S) S.C.length os) (hl:os.length = S.C.length) (hdl:d < (ord15 S os).length) (h:Lb17 S (ord15 S os) (d + 1) M Am) {c:Nat} (hc:nth (ord15 S os) d = c) :
  Lb17 S (ord15 S os) d (adt17 S (isd15 S (c:Int)) M (isd15 S (c:Int)).length) (upd Am c (ada17 S (isd15 S (c:Int)) (isd15 S (c:Int)).length)):=by
 have hu:us14 usC S.C (c:Int) = true:=by rw [<- hc]; exact ord15_used hdl
 have e:=drop17_next hdl;rw [hc] at e;constructor
 ·
  intro j;rw [adt17_end (Nat.le_refl _),List.take_length,h.1,e]
  cases hj:cntb17 S j with
  | false => simp
  | true =>
   have h1:=(cntb17_yes.1 hj).lt;have hin:=us15_lt (hT j h1.1 h1.2).1
   have hm:j∈isd15 S (c:Int)↔(gt14 S.T j).c.toNat = c:=by
    rw [isd17_mem hu];constructor
    ·
     intro h;omega
    ·
     intro h;exact ⟨h1.1,h1.2,by omega⟩
   simp only [Bool.and_true,List.mem_cons,Bool.decide_or,hm];exact Bool.or_comm _ _
 ·
  intro x;rw [e];by_cases hx:x = c
  ·
   subst hx;rw [upd_at,if_pos (List.mem_cons_self ..),ada17_isd hT hu]
  ·
   rw [upd_far _ _ hx,h.2];simp [hx]
theorem Lb17.end_ {S:Sv14} {os:List Nat} {M:Nat->Bool} {Am:Nat->Nat} (hT:Tickets14 S) (hd:Told13 (Ca15 S) S.C.length os) (hl:os.length = S.C.length) (h:Lb17 S (ord15 S os) 0 M Am):(∀ j,M j = cntb17 S j)/\∀ x:Nat,Am x = amn17 S ((x:Nat):Int):=by
 constructor
 ·
  intro j;rw [h.1,List.drop_zero]
  cases hj:cntb17 S j with
  | false => simp
  | true =>
   have h1:=(cntb17_yes.1 hj).lt;have h2:=(hT j h1.1 h1.2).1;have hin:=us15_lt h2;rw [decide_eq_true ((ord17_in hd hl).2 (by rw [show (((gt14 S.T j).c.toNat:Nat):Int) = (gt14 S.T j).c by omega]; exact h2))];rfl
 ·
  intro x;rw [h.2,List.drop_zero];by_cases hx:x∈ord15 S os
  · rw [if_pos hx]
  ·
   rw [if_neg hx]
   symm
   refine amn17_no hT ?_;rw [<- Bool.not_eq_true];exact fun h => hx ((ord17_in hd hl).2 h)
end
section
open Go.RowKit
set_option maxRecDepth 100000
def qr18 (x:Rat):Nat × Nat:=(x.num.toNat,x.den)
theorem qr18_rt {x:Rat} (h:0<=x):Rt (qr18 x)/\vq18 (qr18 x) = x:=by
 have hn:0<=x.num:=Rat.num_nonneg.2 h;have he:((x.num.toNat:Nat):Int) = x.num:=by omega
 refine ⟨⟨x.den_pos,?_⟩,?_⟩
 ·
  have h1:=x.reduced;unfold Nat.Coprime at h1;rw [show (qr18 x).1 = x.num.natAbs by show x.num.toNat = x.num.natAbs; omega];exact h1
 ·
  show ((x.num.toNat:Nat):Rat) / ((x.den:Nat):Rat) = x;have h2:((x.num.toNat:Nat):Rat) = ((x.num:Int):Rat):=by rw [<- Rat.intCast_natCast,he]
  rw [h2,<- Rat.mkRat_eq_div];exact Rat.mkRat_self x
theorem vq18_nonneg (q:Nat × Nat):0<=vq18 q:=by
 unfold vq18;have h1:(0:Rat)<=(q.1:Rat):=by exact_mod_cast Nat.zero_le _
 by_cases h:q.2 = 0
 ·
  rw [h,show ((0:Nat):Rat) = 0 by simp,Rat.div_def,Rat.inv_zero]
  grind
 ·
  have h2:(0:Rat) < (q.2:Rat):=by exact_mod_cast Nat.pos_of_ne_zero h
  exact rat18_div _ _ h1 h2
theorem qr18_of {q:Nat × Nat} {x:Rat} (hq:Rt q) (h:vq18 q = x):q = qr18 x:=by
 have h0:0<=x:=by rw [<- h]; exact vq18_nonneg q
 have h1:=qr18_rt h0;exact vq18_ext hq h1.1 (h.trans h1.2.symm)
theorem qr18_nat (n:Nat):qr18 (n:Rat) = (n,1):=(qr18_of (rt18_nat n).1 (rt18_nat n).2).symm
theorem qr18_zero:qr18 0 = (0,1):=by
 have h:=qr18_nat 0;simpa using h
theorem qr18_div {n d:Nat} (hd:0 < d):(n / Nat.gcd n d,d / Nat.gcd n d) = qr18 ((n:Rat) / (d:Rat)):=qr18_of (rt18_of hd).1 (rt18_of hd).2
theorem qr18_addR {x y:Rat} (hx:0<=x) (hy:0<=y):addR (qr18 x) (qr18 y) = qr18 (x + y):=by
 have h1:=qr18_rt hx;have h2:=qr18_rt hy;have h:=vq18_add h1.1 h2.1;exact qr18_of h.1 (by rw [h.2,h1.2,h2.2])
theorem qr18_mulR {x y:Rat} (hx:0<=x) (hy:0<=y):mulR (qr18 x) (qr18 y) = qr18 (x * y):=by
 have h1:=qr18_rt hx;have h2:=qr18_rt hy;have h:=vq18_mul h1.1 h2.1;exact qr18_of h.1 (by rw [h.2,h1.2,h2.2])
theorem qr18_addQ {x y:Rat} (hx:0<=x) (hy:0<=y):addQ (qr18 x) (qr18 y) = qr18 (x + y):=by rw [addQ_eq (qr18_rt hx).1 (qr18_rt hy).1,qr18_addR hx hy]
theorem qr18_mulQ {x y:Rat} (hx:0<=x) (hy:0<=y):mulQ (qr18 x) (qr18 y) = qr18 (x * y):=by rw [mulQ_eq (qr18_rt hx).1 (qr18_rt hy).1,qr18_mulR hx hy]
def lsum18:List Rat->Rat
 | [] => 0
 | x :: r => x + lsum18 r
theorem lsum18_app (l r:List Rat):lsum18 (l ++ r) = lsum18 l + lsum18 r:=by
 induction l with
 | nil => rw [List.nil_append,lsum18]; grind
 | cons q l ih => rw [List.cons_append,lsum18,lsum18,ih]; grind
theorem qr18_fold {l:List Rat} (h:∀ x,x∈l->0<=x):∀ {s:Rat},0<=s->(l.map qr18).foldl addQ (qr18 s) = qr18 (s + lsum18 l):=by
 induction l with
 | nil =>
  intro s _;rw [List.map_nil,List.foldl_nil,lsum18]
  congr 1
  grind
 | cons x r ih =>
  intro s hs;have hx:=h x (by simp);rw [List.map_cons,List.foldl_cons,qr18_addQ hs hx,ih (fun y hy => h y (by simp [hy])) (show 0<=s + x by grind),lsum18]
  congr 1
  grind
theorem qr18_sum {l:List Rat} (h:∀ x,x∈l->0<=x):(l.map qr18).foldl addQ (0,1) = qr18 (lsum18 l):=by
 rw [<- qr18_zero,qr18_fold h Rat.le_refl]
 congr 1
 grind
theorem qr18_mul2 {x y:Rat} (hx:0<=x) (hy:0<=y):[qr18 x,qr18 y].foldl mulQ (1,1) = qr18 (x * y):=by
 have h1:=qr18_nat 1;have h0:(0:Rat)<=1:=by decide
 rw [List.foldl_cons,List.foldl_cons,List.foldl_nil,<- h1];rw [show ((1:Nat):Rat) = 1 by simp,qr18_mulQ h0 hx,qr18_mulQ (by grind) hy]
 congr 1
 grind
def tsum18 (f:Nat->Rat) (l:List Nat):Nat->Rat
 | 0 => 0
 | i + 1 => tsum18 f l i + f (nth l i)
theorem tsum18_low {f:Nat->Rat} {l r:List Nat}:∀ {i:Nat},i<=l.length->tsum18 f (l ++ r) i = tsum18 f l i
 | 0,_ => rfl
 | i + 1,h => by rw [tsum18,tsum18,tsum18_low (by omega),nth15_low (by omega)]
theorem tsum18_tks {S:Sv14} (f:Nat->Rat) (p:Tk14->Bool):∀ n,tsum18 f (tks15 S p n) (tks15 S p n).length = sumR (fun k => if (gt14 S.T k).u = true/\p (gt14 S.T k) = true then f k else 0) n
 | 0 => rfl
 | n + 1 => by
  have ih:=tsum18_tks (S:=S) f p n;rw [tks17_next,sumR];by_cases h:((gt14 S.T n).u && p (gt14 S.T n)) = true
  ·
   rw [if_pos h,List.length_append,List.length_singleton,tsum18,tsum18_low (Nat.le_refl _),nth15_at rfl,ih];rw [Bool.and_eq_true] at h;rw [if_pos h]
  ·
   rw [if_neg h,List.append_nil,ih];rw [Bool.and_eq_true] at h;rw [if_neg h]
   grind
theorem tsum18_part {P:Nat} {f:Nat->Rat} {l:List Nat} (h:∀ k,Prt18 P (f k)):∀ i,Prt18 P (tsum18 f l i)
 | 0 => Prt18.zero P
 | i + 1 => by rw [tsum18]; exact (tsum18_part h i).add (h _)
theorem tsum18_nonneg {f:Nat->Rat} {l:List Nat} (h:∀ k,0<=f k):∀ i,0<=tsum18 f l i
 | 0 => Rat.le_refl
 | i + 1 => by
  have h1:=tsum18_nonneg (l:=l) h i;have h2:=h (nth l i);rw [tsum18]
  grind
theorem tsum18_le {f:Nat->Rat} {l:List Nat} {x:Rat} (h:∀ k,f k<=x):∀ i:Nat,tsum18 f l i<=(i:Rat) * x
 | 0 => by rw [tsum18]; simp
 | i + 1 => by
  have h1:=tsum18_le (l:=l) h i;have h2:=h (nth l i);rw [tsum18,show ((i + 1:Nat):Rat) = (i:Rat) + 1 by push_cast; rfl]
  grind
theorem Wo18.coin_list {S:Sv14} {wC wT:Nat->Rat} (h:Wo18 S wC wT) {c:Nat} (h0:c≠0):wC c = tsum18 wT (tks15 S (fnd15 2 (c:Int)) S.T.length) (tks15 S (fnd15 2 (c:Int)) S.T.length).length:=by
 rw [tsum18_tks,h.c c,if_neg h0];refine sumR_congr (fun k _ => ?_);unfold fnd15;simp only [decide_eq_true_iff]
theorem th18_list {S:Sv14} {wT:Nat->Rat} (i:Nat):th18 S wT i = tsum18 wT (tks15 S (fnd15 1 (i:Int)) S.T.length) (tks15 S (fnd15 1 (i:Int)) S.T.length).length:=by
 rw [tsum18_tks];refine sumR_congr (fun k _ => ?_);unfold fnd15;simp only [decide_eq_true_iff]
theorem Wo18.fits {S:Sv14} {wC wT:Nat->Rat} (h:Wo18 S wC wT) (hf:Fine14 S) :
  (∀ c,(qr18 (wC c)).1 < 4294967296 ^ 18/\(qr18 (wC c)).2 < 4294967296 ^ 18)/\(∀ k,(qr18 (wT k)).1 < 4294967296 ^ 18/\(qr18 (wT k)).2 < 4294967296 ^ 18)/\∀ (l:List Nat) (i:Nat),i<=100->(qr18 (tsum18 wT l i)).1 < 4294967296 ^ 18/\(qr18 (tsum18 wT l i)).2 < 4294967296 ^ 18:=by
 obtain ⟨hc,ht⟩:=h.small hf;obtain ⟨X,hX⟩:∃ X:Rat,((96 ^ 16 * 134217728:Nat):Rat) = X:=⟨_,rfl⟩
 have hX0:(0:Rat)<=X:=by rw [<- hX]; exact_mod_cast Nat.zero_le _
 refine ⟨fun c => ?_,fun k => ?_,fun l i hi => ?_⟩
 ·
  have h1:=qr18_rt (hc c).2.1;refine fit18 hf h1.1 h1.2 (hc c).1 1 (by omega) ?_;have:=(hc c).2.2;rw [hX] at this ⊢;simp
  grind
 ·
  have h1:=qr18_rt (ht k).2.1;refine fit18 hf h1.1 h1.2 (ht k).1 1 (by omega) ?_;have:=(ht k).2.2;rw [hX] at this ⊢;simp
  grind
 ·
  have h1:=qr18_rt (tsum18_nonneg (l:=l) (fun k => (ht k).2.1) i);exact fit18 hf h1.1 h1.2 (tsum18_part (fun k => (ht k).1) i) i hi (tsum18_le (fun k => (ht k).2.2) i)
def Sm18 (q:Nat × Nat):Prop:=q.1 < 4294967296 ^ 18/\q.2 < 4294967296 ^ 18
theorem sm18_one:Sm18 (0,1):=⟨by decide,by decide⟩
theorem Wo18.tk {S:Sv14} {wC wT:Nat->Rat} (h:Wo18 S wC wT) (hT:Tickets14 S) {j c na:Nat} (hn:cntb17 S j = true) (hc:(gt14 S.T j).c = (c:Int)) (ha:(gt14 S.T j).a = (na:Int)) :
  0 < amn17 S (c:Int)/\wT j = (na:Rat) / (amn17 S (c:Int):Rat) * wC c:=by
 have hA:=amn17_int hT (c:Int);have hp:0 < amt17 S (c:Int) S.T.length:=(amt17_all hT (c:Int)).2 ⟨j,hc,cntb17_yes.1 hn⟩;have hp2:0 < amn17 S (c:Int):=by omega
 have e1:((na:Int):Rat) = (na:Rat):=rfl;have e2:((amt17 S (c:Int) S.T.length:Int):Rat) = (amn17 S (c:Int):Rat):=by rw [<- hA]; rfl
 refine ⟨hp2,?_⟩;have hne:(amn17 S (c:Int):Rat)≠0:=nz18 hp2;rw [h.t,if_pos hn,ha,hc,Int.toNat_natCast,e2,e1];by_cases h0:(c:Int) = 0
 ·
  rw [if_pos h0];obtain rfl:c = 0:=by omega
  rw [h.c 0,if_pos rfl];have e3:((amt17 S 0 S.T.length:Int):Rat) = (amn17 S ((0:Nat):Int):Rat):=e2;rw [e3]
  grind
 · rw [if_neg h0]
noncomputable def adq18 (S:Sv14) (wT:Nat->Rat) (l:List Nat) (qt:Nat->Nat × Nat):Nat->Nat->Nat × Nat
 | 0 => qt
 | i + 1 => if cntb17 S (nth l i) = true then upd (adq18 S wT l qt i) (nth l i) (qr18 (wT (nth l i))) else adq18 S wT l qt i
theorem adq18_end {S:Sv14} {wT:Nat->Rat} {l:List Nat} {qt:Nat->Nat × Nat}:∀ {i:Nat},i<=l.length->∀ y,adq18 S wT l qt i y = if y∈l.take i/\cntb17 S y = true then qr18 (wT y) else qt y
 | 0,_,y => by rw [adq18,if_neg (by simp)]
 | i + 1,h,y => by
  have ih:=fun z => adq18_end (S:=S) (wT:=wT) (qt:=qt) (show i<=l.length by omega) z
  rw [adq18,take15_next (by omega)];split
  ·
   next hc =>
   by_cases e:y = nth l i
   · rw [e,upd_at,if_pos ⟨by simp,hc⟩]
   ·
    rw [upd_far _ _ e,ih];by_cases hm:y∈l.take i
    ·
     by_cases hb:cntb17 S y = true
     · rw [if_pos ⟨hm,hb⟩,if_pos ⟨by simp [hm],hb⟩]
     · rw [if_neg (fun h => hb h.2),if_neg (fun h => hb h.2)]
    ·
     rw [if_neg (fun h => hm h.1),if_neg (fun h => by
      rcases List.mem_append.1 h.1 with h | h
      · exact hm h
      · exact e (by simpa using h))]
  ·
   next hc =>
   rw [ih];by_cases hb:cntb17 S y = true
   ·
    by_cases hm:y∈l.take i
    · rw [if_pos ⟨hm,hb⟩,if_pos ⟨by simp [hm],hb⟩]
    ·
     rw [if_neg (fun h => hm h.1),if_neg (fun h => by
      rcases List.mem_append.1 h.1 with h | h
      · exact hm h
      · exact hc (by rw [<- show y = nth l i by simpa using h]; exact hb))]
   · rw [if_neg (fun h => hb h.2),if_neg (fun h => hb h.2)]
def Lw18 (S:Sv14) (wC wT:Nat->Rat) (ns:List Nat) (d:Nat) (qc qt:Nat->Nat × Nat):Prop :=
 (∀ x,qc x = if x∈ns.take d then qr18 (wC x) else (0,1))/\∀ j,qt j = if (gt14 S.T j).c.toNat∈ns.take d/\cntb17 S j = true then qr18 (wT j) else (0,1)
theorem lw18_start (S:Sv14) (wC wT:Nat->Rat) (ns:List Nat):Lw18 S wC wT ns 0 (fun _ => (0,1)) (fun _ => (0,1)):=⟨fun x => by rw [if_neg (by simp)],fun j => by rw [if_neg (by simp)]⟩
theorem Lw18.sm {S:Sv14} {wC wT:Nat->Rat} {ns:List Nat} {d:Nat} {qc qt:Nat->Nat × Nat} (h:Lw18 S wC wT ns d qc qt) (hc:∀ c,Sm18 (qr18 (wC c))) (ht:∀ k,Sm18 (qr18 (wT k))):(∀ x,Sm18 (qc x))/\∀ j,Sm18 (qt j):=by
 refine ⟨fun x => ?_,fun j => ?_⟩
 ·
  rw [h.1];split
  · exact hc x
  · exact sm18_one
 ·
  rw [h.2];split
  · exact ht j
  · exact sm18_one
theorem Lw18.pre {S:Sv14} {wC wT:Nat->Rat} {os:List Nat} {d:Nat} {qc qt:Nat->Nat × Nat} (hw:Wo18 S wC wT) (hT:Tickets14 S) (hd:Told13 (Ca15 S) S.C.length os) (hdl:d < (ord15 S os).length) (h:Lw18 S wC wT (ord15 S os) d qc qt) {c:Nat} (hc:nth (ord15 S os) d = c) {j:Nat} (hj:j∈bck15 S (c:Int)):j < S.T.length/\qt j = qr18 (wT j):=by
 have hu:us14 usC S.C (c:Int) = true:=by rw [<- hc]; exact ord15_used hdl
 have hb:=(bck15_mem hu).1 hj;refine ⟨hb.1,?_⟩;rw [h.2];by_cases hn:cntb17 S j = true
 ·
  have huf:=(hT j hb.1 hb.2.1).1;have hin:=us15_lt huf;have hcin:=us15_lt hu;have hcf:(((gt14 S.T j).c.toNat:Nat):Int) = (gt14 S.T j).c:=by omega
  have hm:(gt14 S.T j).c.toNat∈(ord15 S os).take d:=by
   refine told15_pre hd (fun x => us14 usC S.C (x:Int)) d hdl _ (ca15_mem.2 ⟨⟨j,?_,hcf.symm⟩,by omega,?_⟩) (by rw [hcf]; exact huf)
   ·
    show Bck15 S (nth (ord15 S os) d) j;rw [hc];exact hb
   ·
    show nth (ord15 S os) d < S.C.length;rw [hc];omega
  rw [if_pos ⟨hm,hn⟩]
 · rw [if_neg (fun h => hn h.2),hw.none (fun h => hn (cntb17_yes.2 h)),qr18_zero]
theorem Lw18.next {S:Sv14} {wC wT:Nat->Rat} {os:List Nat} {d:Nat} {qc qt:Nat->Nat × Nat} (hT:Tickets14 S) (hdl:d < (ord15 S os).length) (h:Lw18 S wC wT (ord15 S os) d qc qt) {c:Nat} (hc:nth (ord15 S os) d = c) :
  Lw18 S wC wT (ord15 S os) (d + 1) (upd qc c (qr18 (wC c))) (adq18 S wT (isd15 S (c:Int)) qt (isd15 S (c:Int)).length):=by
 have hu:us14 usC S.C (c:Int) = true:=by rw [<- hc]; exact ord15_used hdl
 refine ⟨fun x => ?_,fun j => ?_⟩
 ·
  rw [take15_next hdl,hc];by_cases e:x = c
  · rw [e,upd_at,if_pos (by simp)]
  ·
   rw [upd_far _ _ e,h.1];by_cases hm:x∈(ord15 S os).take d
   · rw [if_pos hm,if_pos (by simp [hm])]
   · rw [if_neg hm,if_neg (by simp [hm,e])]
 ·
  rw [adq18_end (Nat.le_refl _),List.take_length,take15_next hdl,hc,h.2];by_cases hn:cntb17 S j = true
  ·
   have hl:=(cntb17_yes.1 hn).lt;have hin:=us15_lt (hT j hl.1 hl.2).1;by_cases e:(gt14 S.T j).c = (c:Int)
   · rw [if_pos ⟨(isd17_mem hu).2 ⟨hl.1,hl.2,e⟩,hn⟩,if_pos ⟨by rw [e]; simp,hn⟩]
   ·
    rw [if_neg (fun g => e ((isd17_mem hu).1 g.1).2.2)];by_cases hm:(gt14 S.T j).c.toNat∈(ord15 S os).take d
    · rw [if_pos ⟨hm,hn⟩,if_pos ⟨by simp [hm],hn⟩]
    ·
     rw [if_neg (fun g => hm g.1),if_neg (fun g => by
      rcases List.mem_append.1 g.1 with g | g
      · exact hm g
      ·
       have:(gt14 S.T j).c.toNat = c:=by simpa using g
       omega)]
  · rw [if_neg (fun g => hn g.2),if_neg (fun g => hn g.2),if_neg (fun g => hn g.2)]
theorem Wo18.unused {S:Sv14} {wC wT:Nat->Rat} (h:Wo18 S wC wT) (hf:Fine14 S) {c:Nat} (hu:us14 usC S.C (c:Int) = false):wC c = 0:=by
 have hT:=hf.2.2.2.2.1;rw [h.c];rw [if_neg (fun e => by rw [e,show us14 usC S.C ((0:Nat):Int) = us14 usC S.C 0 from rfl,hf.2.2.2.1] at hu; cases hu)];refine sumR_all (fun k hk => ?_);split
 ·
  next h1 =>
  rcases (hT k hk h1.1).2.2.2 with h4 | h4 | h4
  · rw [h1.2.1] at h4; exact absurd h4.1 (by decide)
  · rw [h1.2.1] at h4; exact absurd h4.1 (by decide)
  · rw [h1.2.2,hu] at h4; exact absurd h4.2.2 (by decide)
 · rfl
theorem Lw18.end_ {S:Sv14} {wC wT:Nat->Rat} {os:List Nat} {qc qt:Nat->Nat × Nat} (hw:Wo18 S wC wT) (hf:Fine14 S) (hd:Told13 (Ca15 S) S.C.length os) (hl:os.length = S.C.length) (h:Lw18 S wC wT (ord15 S os) (ord15 S os).length qc qt):(∀ x,qc x = qr18 (wC x))/\∀ j,qt j = qr18 (wT j):=by
 have hT:=hf.2.2.2.2.1;refine ⟨fun x => ?_,fun j => ?_⟩
 ·
  rw [h.1,List.take_length];split
  · rfl
  ·
   next hm =>
   have hu:us14 usC S.C (x:Int) = false:=by
    cases hu:us14 usC S.C (x:Int) with
    | false => rfl
    | true => exact absurd ((ord17_in hd hl).2 hu) hm
   rw [hw.unused hf hu,qr18_zero]
 ·
  rw [h.2,List.take_length];by_cases hn:cntb17 S j = true
  ·
   have hlt:=(cntb17_yes.1 hn).lt;have hu:=(hT j hlt.1 hlt.2).1;have hin:=us15_lt hu;rw [if_pos ⟨(ord17_in hd hl).2 (by rw [show (((gt14 S.T j).c.toNat:Nat):Int) = (gt14 S.T j).c by omega]; exact hu),hn⟩]
  · rw [if_neg (fun g => hn g.2),hw.none (fun h => hn (cntb17_yes.2 h)),qr18_zero]
theorem Wo18.coin_bck {S:Sv14} {wC wT:Nat->Rat} (h:Wo18 S wC wT) {c:Nat} (h0:c≠0) (hu:us14 usC S.C (c:Int) = true):wC c = tsum18 wT (bck15 S (c:Int)) (bck15 S (c:Int)).length:=by
 rw [h.coin_list h0];unfold bck15;rw [if_pos hu]
theorem th18_ofs {S:Sv14} {wT:Nat->Rat} (hT:Tickets14 S) (i:Nat):th18 S wT i = tsum18 wT (ofs15 S (i:Int)) (ofs15 S (i:Int)).length:=by
 cases hu:us14 usH S.H (i:Int) with
 | true =>
  rw [th18_list];unfold ofs15
  rw [if_pos hu]
 | false =>
  unfold ofs15;rw [if_neg (by rw [hu]; decide)];refine sumR_all (fun k hk => ?_);split
  ·
   next h1 =>
   rcases (hT k hk h1.1).2.2.2 with h4 | h4 | h4
   · rw [h1.2.1] at h4; exact absurd h4.1 (by decide)
   · rw [h1.2.2,hu] at h4; exact absurd h4.2 (by decide)
   · rw [h1.2.1] at h4; exact absurd h4.1 (by decide)
  · rfl
end
end Go.Proofs.YtkdmnlihpebbkaaGreat
