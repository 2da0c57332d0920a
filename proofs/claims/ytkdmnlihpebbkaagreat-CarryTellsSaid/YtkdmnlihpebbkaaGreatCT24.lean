import Derived.Test.YtkdmnlihpebbkaaGreatCT23
set_option linter.all false
set_option maxHeartbeats 8000000
namespace Go.Proofs.YtkdmnlihpebbkaaGreat
section
open Go.RowKit
set_option maxRecDepth 100000
theorem ce4 {W:World} {g:Nat} {t:TypeId} {a b c d:Value} {r:List Value} (h:Blk W g t (a::b::c::d::r).toArray):W.cell? ⟨g,0,none⟩ = some a/\W.cell? ⟨g,1,none⟩ = some b/\W.cell? ⟨g,2,none⟩ = some c/\W.cell? ⟨g,3,none⟩ = some d:=⟨h.cell 0,h.cell 1,h.cell 2,h.cell 3⟩
structure Cb18 (w:World) (S:Sv14) (A0 A1 A2 A3 A4:Option Addr) (n0 n1 n2 n3 n4 c0 c1 c2 c3 c4:Nat) (sq:Int) (g1 g2 g3 g4:Nat) (W:World):Prop where
 b:Blk W w.heap.size 104 #[.slice (some ⟨g1,0,none⟩) n1 n1,.slice (some ⟨g2,0,none⟩) n0 n0,.slice (some ⟨g3,0,none⟩) n0 n0,.slice (some ⟨g4,0,none⟩) n1 n1]
 x:Blk W (w.heap.size + 1) 28 #[.slice A0 n0 c0,.slice A1 n1 c1,.slice A2 n2 c2,.slice A3 n3 c3,.slice A4 n4 c4,.int .i64 sq]
 z:Below w.heap.size w W
 s:SA14 w S A0 A1 A2 A3 A4 n0 n1 n2 n3 n4 c0 c1 c2 c3 c4 sq
theorem Cb18.low {w:World} {S:Sv14} {A0 A1 A2 A3 A4:Option Addr} {n0 n1 n2 n3 n4 c0 c1 c2 c3 c4:Nat} {sq:Int} {g1 g2 g3 g4:Nat} {W W':World} (h:Cb18 w S A0 A1 A2 A3 A4 n0 n1 n2 n3 n4 c0 c1 c2 c3 c4 sq g1 g2 g3 g4 W) (hb:Below (w.heap.size + 2) W W'):Cb18 w S A0 A1 A2 A3 A4 n0 n1 n2 n3 n4 c0 c1 c2 c3 c4 sq g1 g2 g3 g4 W' :=
 ⟨h.b.below hb (by omega),h.x.below hb (by omega),h.z.trans (hb.mono (by omega)),h.s⟩
theorem Cb18.step {w:World} {S:Sv14} {A0 A1 A2 A3 A4:Option Addr} {n0 n1 n2 n3 n4 c0 c1 c2 c3 c4:Nat} {sq:Int} {g1 g2 g3 g4:Nat} {W W':World} (h:Cb18 w S A0 A1 A2 A3 A4 n0 n1 n2 n3 n4 c0 c1 c2 c3 c4 sq g1 g2 g3 g4 W) (hb:Below W.heap.size W W'):Cb18 w S A0 A1 A2 A3 A4 n0 n1 n2 n3 n4 c0 c1 c2 c3 c4 sq g1 g2 g3 g4 W' :=
 ⟨h.b.below hb h.b.lt,h.x.below hb h.x.lt,h.z.trans (hb.mono h.z.size),h.s⟩
theorem Cb18.st {w:World} {S:Sv14} {A0 A1 A2 A3 A4:Option Addr} {n0 n1 n2 n3 n4 c0 c1 c2 c3 c4:Nat} {sq:Int} {g1 g2 g3 g4:Nat} {W:World} (h:Cb18 w S A0 A1 A2 A3 A4 n0 n1 n2 n3 n4 c0 c1 c2 c3 c4 sq g1 g2 g3 g4 W):St14 W (.agg #[.slice A0 n0 c0,.slice A1 n1 c1,.slice A2 n2 c2,.slice A3 n3 c3,.slice A4 n4 c4,.int .i64 sq]) S:=⟨A0,A1,A2,A3,A4,n0,n1,n2,n3,n4,c0,c1,c2,c3,c4,sq,rfl,h.s.step h.z⟩
theorem coin18_base (S:Sv14) (A0 A1 A2 A3 A4:Option Addr) (n0 n1 n2 n3 n4 c0 c1 c2 c3 c4:Nat) (sq:Int) (g1 g2 g3 g4:Nat) (Am:Nat->Nat) (w:World) (hs:SA14 w S A0 A1 A2 A3 A4 n0 n1 n2 n3 n4 c0 c1 c2 c3 c4 sq) (h2:Ib13 w g2 n0 Am) (h0:0 < n0) (hA:Am 0 < 1073741824) :
  Calls Tryz.prog 105 #[.agg #[.slice (some ⟨g1,0,none⟩) n1 n1,.slice (some ⟨g2,0,none⟩) n0 n0,.slice (some ⟨g3,0,none⟩) n0 n0,.slice (some ⟨g4,0,none⟩) n1 n1],(.agg #[.slice A0 n0 c0,.slice A1 n1 c1,.slice A2 n2 c2,.slice A3 n3 c3,.slice A4 n4 c4,.int .i64 sq]),.int .i64 0] w (RetQ w (Am 0) 1):=by
 have hk1:=Blk.new w 104 #[.slice (some ⟨g1,0,none⟩) n1 n1,.slice (some ⟨g2,0,none⟩) n0 n0,.slice (some ⟨g3,0,none⟩) n0 n0,.slice (some ⟨g4,0,none⟩) n1 n1];have hb1:=b1' w (.cells #[.slice (some ⟨g1,0,none⟩) n1 n1,.slice (some ⟨g2,0,none⟩) n0 n0,.slice (some ⟨g3,0,none⟩) n0 n0,.slice (some ⟨g4,0,none⟩) n1 n1] 104)
 obtain ⟨W1,hW1⟩:=exq (w.alloc (.cells #[.slice (some ⟨g1,0,none⟩) n1 n1,.slice (some ⟨g2,0,none⟩) n0 n0,.slice (some ⟨g3,0,none⟩) n0 n0,.slice (some ⟨g4,0,none⟩) n1 n1] 104));have hz1:W1.heap.size = w.heap.size + 1:=by rw [<- hW1]; simp
 rw [hW1] at hb1 hk1;have hb2:=b1' W1 (.cells #[.slice A0 n0 c0,.slice A1 n1 c1,.slice A2 n2 c2,.slice A3 n3 c3,.slice A4 n4 c4,.int .i64 sq] 28);have hk2:=Blk.new W1 28 #[.slice A0 n0 c0,.slice A1 n1 c1,.slice A2 n2 c2,.slice A3 n3 c3,.slice A4 n4 c4,.int .i64 sq]
 obtain ⟨W2,hW2⟩:=exq (W1.alloc (.cells #[.slice A0 n0 c0,.slice A1 n1 c1,.slice A2 n2 c2,.slice A3 n3 c3,.slice A4 n4 c4,.int .i64 sq] 28));have hz2:W2.heap.size = w.heap.size + 2:=by rw [<- hW2]; simp; omega
 rw [hW2,hz1] at hk2;rw [hW2] at hb2;have hb3:=b1' W2 (.cells #[.slice none 0 0,.slice none 0 0] 46);have hk3:=Blk.new W2 46 #[.slice none 0 0,.slice none 0 0];obtain ⟨W3,hW3⟩:=exq (W2.alloc (.cells #[.slice none 0 0,.slice none 0 0] 46));rw [hW3,hz2] at hk3;rw [hW3] at hb3
 have hz3:Below w.heap.size w W3:=(hb1.trans (hb2.mono hb1.size)).trans (hb3.mono (hb1.trans (hb2.mono hb1.size)).size);have HQ0:Hid (Cb18 w S A0 A1 A2 A3 A4 n0 n1 n2 n3 n4 c0 c1 c2 c3 c4 sq g1 g2 g3 g4 W3):=qz ⟨(hk1.below hb2 hk1.lt).below hb3 (hk1.below hb2 hk1.lt).lt,hk2.below hb3 hk2.lt,hz3,hs⟩;obtain ⟨z,hz⟩:=exq (Am 0)
 have a0:W3.cell? ⟨g2,0,none⟩ = some (.int .i64 (z:Int)):=by rw [<- hz]; exact (hz3.cell (p:=⟨g2,0,none⟩) h2.lt).trans (h2.cells h0).1
 rw [hz] at hA ⊢;have HSH:=qz (fun W => share18 z 1 (by omega) (by omega) (by omega) W);rw [Nat.gcd_one_right,Nat.div_one,Nat.div_one] at HSH;have t1:=HQ0.out.b.cell 1;have c1:(0:Int) < (n0:Int):=by omega
 have HO:=qz hk3;have hlo:=hk3.lt;clear hz h2 hk1 hb1 hb2 hk2 hb3 hk3 hz3 hA h0 hs;go_enter Tryz.func105,Tryz.ntmps105;go_wp2_with fail;refine (HSH.out _).mono ?_;rintro e w2 ⟨A1,i1,t1,A2,i2,t2,rfl,hx,hy,hb⟩;have HBS:=qz (HQ0.out.step hb);have HO2:=qz (HO.out.below hb hlo);have HX:=qz hx;have HY:=qz hy
 try rw [hz2]
 have r0:=HO2.out.cell 0;have r1:=HO2.out.cell 1;have f0:=HO2.out.frozen 0;have f1:=HO2.out.frozen 1;clear hx hy hb HQ0 HO HSH hW1 hW2 hW3 hz1 hz2 a0;go_wp2_with fail;have hp:=put_q HO2.out (.slice A1 i1 t1) (.slice A2 i2 t2)
 exact bodyPost_ret (v:=.agg #[.slice A1 i1 t1,.slice A2 i2 t2]) (by simp [results,Tryz.results105,go_sem,hp.cell 0,hp.cell 1]) rfl
  ⟨_,_,_,_,_,_,rfl,(HX.out.put_q hlo _ _).more (by omega),(HY.out.put_q hlo _ _).more (by omega),(HBS.out.z.setCell (by show w.heap.size<=w.heap.size + 2; omega) _).setCell (by show w.heap.size<=w.heap.size + 2; omega) _⟩
theorem coin18_more (S:Sv14) (A0 A1 A2 A3 A4:Option Addr) (n0 n1 n2 n3 n4 c0 c1 c2 c3 c4:Nat) (sq:Int) (g1 g2 g3 g4:Nat) (c:Nat) (qt:Nat->Nat × Nat) (wT:Nat->Rat) (w:World) (hs:SA14 w S A0 A1 A2 A3 A4 n0 n1 n2 n3 n4 c0 c1 c2 c3 c4 sq) (h4:Qr18 w g4 n1 qt) (h0:c≠0) (hl:(bck15 S (c:Int)).length<=100) (hq:∀ j,j∈bck15 S (c:Int)->j < n1/\qt j = qr18 (wT j)) (hw:∀ k,0<=wT k) (hsm:∀ k,Sm18 (qt k)) :
  Calls Tryz.prog 105 #[.agg #[.slice (some ⟨g1,0,none⟩) n1 n1,.slice (some ⟨g2,0,none⟩) n0 n0,.slice (some ⟨g3,0,none⟩) n0 n0,.slice (some ⟨g4,0,none⟩) n1 n1],(.agg #[.slice A0 n0 c0,.slice A1 n1 c1,.slice A2 n2 c2,.slice A3 n3 c3,.slice A4 n4 c4,.int .i64 sq]),.int .i64 (c:Int)] w (RetQ w (qr18 (tsum18 wT (bck15 S (c:Int)) (bck15 S (c:Int)).length)).1 (qr18 (tsum18 wT (bck15 S (c:Int)) (bck15 S (c:Int)).length)).2):=by
 have hk1:=Blk.new w 104 #[.slice (some ⟨g1,0,none⟩) n1 n1,.slice (some ⟨g2,0,none⟩) n0 n0,.slice (some ⟨g3,0,none⟩) n0 n0,.slice (some ⟨g4,0,none⟩) n1 n1];have hb1:=b1' w (.cells #[.slice (some ⟨g1,0,none⟩) n1 n1,.slice (some ⟨g2,0,none⟩) n0 n0,.slice (some ⟨g3,0,none⟩) n0 n0,.slice (some ⟨g4,0,none⟩) n1 n1] 104)
 obtain ⟨W1,hW1⟩:=exq (w.alloc (.cells #[.slice (some ⟨g1,0,none⟩) n1 n1,.slice (some ⟨g2,0,none⟩) n0 n0,.slice (some ⟨g3,0,none⟩) n0 n0,.slice (some ⟨g4,0,none⟩) n1 n1] 104));have hz1:W1.heap.size = w.heap.size + 1:=by rw [<- hW1]; simp
 rw [hW1] at hb1 hk1;have hb2:=b1' W1 (.cells #[.slice A0 n0 c0,.slice A1 n1 c1,.slice A2 n2 c2,.slice A3 n3 c3,.slice A4 n4 c4,.int .i64 sq] 28);have hk2:=Blk.new W1 28 #[.slice A0 n0 c0,.slice A1 n1 c1,.slice A2 n2 c2,.slice A3 n3 c3,.slice A4 n4 c4,.int .i64 sq]
 obtain ⟨W2,hW2⟩:=exq (W1.alloc (.cells #[.slice A0 n0 c0,.slice A1 n1 c1,.slice A2 n2 c2,.slice A3 n3 c3,.slice A4 n4 c4,.int .i64 sq] 28));have hz2:W2.heap.size = w.heap.size + 2:=by rw [<- hW2]; simp; omega
 rw [hW2,hz1] at hk2;rw [hW2] at hb2;have hb3:=b1' W2 (.cells #[.slice none 0 0,.slice none 0 0] 46);have hk3:=Blk.new W2 46 #[.slice none 0 0,.slice none 0 0];obtain ⟨W3,hW3⟩:=exq (W2.alloc (.cells #[.slice none 0 0,.slice none 0 0] 46));rw [hW3,hz2] at hk3;rw [hW3] at hb3
 have hz3:Below w.heap.size w W3:=(hb1.trans (hb2.mono hb1.size)).trans (hb3.mono (hb1.trans (hb2.mono hb1.size)).size);have HQ0:Hid (Cb18 w S A0 A1 A2 A3 A4 n0 n1 n2 n3 n4 c0 c1 c2 c3 c4 sq g1 g2 g3 g4 W3):=qz ⟨(hk1.below hb2 hk1.lt).below hb3 (hk1.below hb2 hk1.lt).lt,hk2.below hb3 hk2.lt,hz3,hs⟩
 have HBK:=qz (fun W (h:Cb18 w S A0 A1 A2 A3 A4 n0 n1 n2 n3 n4 c0 c1 c2 c3 c4 sq g1 g2 g3 g4 W) => backing15 (.agg #[.slice A0 n0 c0,.slice A1 n1 c1,.slice A2 n2 c2,.slice A3 n3 c3,.slice A4 n4 c4,.int .i64 sq]) S (c:Int) W h.st);obtain ⟨l,hll⟩:=exq (bck15 S (c:Int));rw [hll] at HBK hl hq ⊢;obtain ⟨m,hm⟩:=exq l.length
 have hfo:((List.range m).map (fun k => qt (nth l k))).foldl addQ (0,1) = qr18 (tsum18 wT l m):=by
  rw [<- fold18_range l m hw]
  congr 1
  refine List.map_congr_left (fun k hk => ?_);have hkl:k < l.length:=by rw [hm]; simpa using hk
  exact (hq _ (by rw [nth_in hkl]; exact List.getElem_mem _)).2
 rw [hm] at hl ⊢;have HTG:=qz (fun A ca W (h:Cb18 w S A0 A1 A2 A3 A4 n0 n1 n2 n3 n4 c0 c1 c2 c3 c4 sq g1 g2 g3 g4 W) (hr:Rd W W.heap.size A l) => together18 (some ⟨g1,0,none⟩) (some ⟨g2,0,none⟩) (some ⟨g3,0,none⟩) n1 n1 n0 n0 n0 n0 g4 n1 A l m ca qt W (h4.step h.z) hm hr (fun j hj => (hq j hj).1) (fun k _ => hsm k) hl);rw [hfo] at HTG
 obtain ⟨u1,hu1⟩:=exq ((qr18 (tsum18 wT l m)).1);obtain ⟨u2,hu2⟩:=exq ((qr18 (tsum18 wT l m)).2);rw [hu1,hu2] at HTG ⊢;have HM:=qz hm;have hcb:((c:Int) == 0) = false:=by simp; omega
 have HO:Hid (Blk W3.drew (w.heap.size + 2) 46 #[.slice none 0 0,.slice none 0 0]):=qz (hk3.below (Below.refl W3.heap.size W3).drew hk3.lt);clear hll hm hfo hu1 hu2 h4 h0 hl hq hw hsm hk1 hb1 hb2 hk2 hb3 hk3 hz3 hs;go_enter Tryz.func105,Tryz.ntmps105;go_upto_region 3 with (fail)
 try rw [hz1]
 try rw [hz2]
 clear hW1 hW2 hW3 hz1 hz2;have HXN:Hid (Cb18 w S A0 A1 A2 A3 A4 n0 n1 n2 n3 n4 c0 c1 c2 c3 c4 sq g1 g2 g3 g4 W3.drew):=qz (HQ0.out.step (Below.refl _ _).drew);clear HQ0;obtain ⟨wn,hwn⟩:=exq W3.drew;rw [hwn] at HXN HO;go_wp2_with fail
 refine wp_region_held_drew (S:=Cb18 w S A0 A1 A2 A3 A4 n0 n1 n2 n3 n4 c0 c1 c2 c3 c4 sq g1 g2 g3 g4) (by kernel_rfl) (by rw [hwn]; exact HXN.out) (fun hHeld => ?_);rw [hwn] at hHeld ⊢;clear hwn;have HBS:=HXN;refine tk 0 (v:=?_) (fun W hS => ?_) ?_;rotate_left
 ·
  try dsimp only at hS
  obtain ⟨z0,z1,z2,z3⟩:=ce4 hS.b;go_simp
  try with_reducible rfl
 try simp only [Act.put,pt1,pt2,pt3]
 refine tk 1 (v:=?_) (fun W hS => ?_) ?_;rotate_left
 ·
  try dsimp only at hS
  obtain ⟨z0,z1,z2,z3,z4,z5⟩:=ce6 hS.x;go_simp
  try with_reducible rfl
 try simp only [Act.put,pt1,pt2,pt3]
 refine tkq 2 ?_;refine rdy 3 (fun K hK => ?_);have HBS0:=HBS;go_simp;refine (HBK.out _ HBS0.out).mono ?_;rintro e wn ⟨A,ca,rfl,hr,hb⟩;have HBS:=qz (HBS0.out.step hb);have HO:=qz (HO.out.below hb HO.out.lt);rw [HM.out];have HR:=qz hr;clear hb HBS0 hr;refine koq hK HBS.out (fun hHeld=>?_);clear hK K;refine rdy 4 (fun K hK => ?_);have HBS0:=HBS;go_simp
 refine (HTG.out A ca _ HBS0.out HR.out).mono ?_;have hz:=HO.out.lt;rintro e wn ⟨E1,j1,o1,E2,j2,o2,rfl,hx,hy,hb⟩;have HBS:=qz (HBS0.out.step hb);have HO:=qz (HO.out.below hb HO.out.lt);have HX:=qz hx;have HY:=qz hy;have HZ:=qz hz;clear hb HBS0 hx hy hz HR;refine koq hK HBS.out (fun hHeld=>?_);clear hK K;refine rdy 5 (fun K hK => ?_);have x0:=HO.out.cell 0
 have x1:=HO.out.cell 1;have xf0:=HO.out.frozen 0;have xf1:=HO.out.frozen 1;have HBS0:=HBS;go_simp;obtain ⟨wm,hwm⟩:=exq ((wn.setCell ⟨w.heap.size + 2,0,none⟩ (.slice E1 j1 o1)).setCell ⟨w.heap.size + 2,1,none⟩ (.slice E2 j2 o2))
 have HBS:=qz (HBS0.out.low (W':=wm) (by rw [<- hwm]; exact ((Below.refl _ _).setCell (show w.heap.size + 2<=w.heap.size + 2 from Nat.le_refl _) _).setCell (show w.heap.size + 2<=w.heap.size + 2 from Nat.le_refl _) _));have HX:=qz (show Nv wm _ (.slice E1 j1 o1) u1 by rw [<- hwm]; exact HX.out.put_q HZ.out _ _)
 have HY:=qz (show Nv wm _ (.slice E2 j2 o2) u2 by rw [<- hwm]; exact HY.out.put_q HZ.out _ _);have HO:=qz (show Blk wm (w.heap.size + 2) 46 #[.slice E1 j1 o1,.slice E2 j2 o2] by rw [<- hwm]; exact put_q HO.out _ _);rw [hwm];clear hwm x0 x1 xf0 xf1 HBS0;obtain ⟨wn,hwn⟩:∃ W,W = wm:=⟨_,rfl⟩
 subst hwn;refine koq hK HBS.out (fun hHeld=>?_);clear hK K;refine wpAnyH_done (by kernel_rfl) ?_ _;clear hHeld;have x0:=HO.out.cell 0;have x1:=HO.out.cell 1;go_wp2_with fail
 exact bodyPost_ret (v:=.agg #[.slice E1 j1 o1,.slice E2 j2 o2]) (by simp [results,Tryz.results105,go_sem,x0,x1]) rfl
  ⟨_,_,_,_,_,_,rfl,HX.out.more (by have:=HZ.out; omega),HY.out.more (by have:=HZ.out; omega),HBS.out.z⟩
structure Ad18 (w0 w:World) (S:Sv14) (A0 A1 A2 A3 A4:Option Addr) (n0 n1 n2 n3 n4 c0 c1 c2 c3 c4:Nat) (sq:Int) (g1 g2 g3 g4:Nat) (qc qt:Nat->Nat × Nat) (A:Option Addr) (l:List Nat) (W:World):Prop where
 k:Bk13 w0.heap.size g3 (some g4) w W
 z:Below w0.heap.size w0 W
 x:Blk W (w.heap.size + 1) 28 #[.slice A0 n0 c0,.slice A1 n1 c1,.slice A2 n2 c2,.slice A3 n3 c3,.slice A4 n4 c4,.int .i64 sq]
 y:Blk W w.heap.size 104 #[.slice (some ⟨g1,0,none⟩) n1 n1,.slice (some ⟨g2,0,none⟩) n0 n0,.slice (some ⟨g3,0,none⟩) n0 n0,.slice (some ⟨g4,0,none⟩) n1 n1]
 r1:Bb13 W g1 n1 (cntb17 S)
 r2:Ib13 W g2 n0 (fun x => amn17 S ((x:Nat):Int))
 r3:Qr18 W g3 n0 qc
 r4:Qr18 W g4 n1 qt
 r:Rd W W.heap.size A l
 f:Fa17 w.heap.size A l
 s:SA14 w0 S A0 A1 A2 A3 A4 n0 n1 n2 n3 n4 c0 c1 c2 c3 c4 sq
 e3:g3 < w.heap.size
 e4:g4 < w.heap.size
 f3:w0.heap.size<=g3
 f4:w0.heap.size<=g4
 ne:g3≠g4
theorem Ad18.st {w0 w:World} {S:Sv14} {A0 A1 A2 A3 A4:Option Addr} {n0 n1 n2 n3 n4 c0 c1 c2 c3 c4:Nat} {sq:Int} {g1 g2 g3 g4:Nat} {qc qt:Nat->Nat × Nat} {A:Option Addr} {l:List Nat} {W:World} (h:Ad18 w0 w S A0 A1 A2 A3 A4 n0 n1 n2 n3 n4 c0 c1 c2 c3 c4 sq g1 g2 g3 g4 qc qt A l W):St14 W (.agg #[.slice A0 n0 c0,.slice A1 n1 c1,.slice A2 n2 c2,.slice A3 n3 c3,.slice A4 n4 c4,.int .i64 sq]) S:=⟨A0,A1,A2,A3,A4,n0,n1,n2,n3,n4,c0,c1,c2,c3,c4,sq,rfl,h.s.step h.z⟩
theorem Ad18.step {w0 w:World} {S:Sv14} {A0 A1 A2 A3 A4:Option Addr} {n0 n1 n2 n3 n4 c0 c1 c2 c3 c4:Nat} {sq:Int} {g1 g2 g3 g4:Nat} {qc qt:Nat->Nat × Nat} {A:Option Addr} {l:List Nat} {W W':World} (h:Ad18 w0 w S A0 A1 A2 A3 A4 n0 n1 n2 n3 n4 c0 c1 c2 c3 c4 sq g1 g2 g3 g4 qc qt A l W) (hb:Below W.heap.size W W'):Ad18 w0 w S A0 A1 A2 A3 A4 n0 n1 n2 n3 n4 c0 c1 c2 c3 c4 sq g1 g2 g3 g4 qc qt A l W' :=
 ⟨bk17_trans h.k (bk17_below h.z.size hb),h.z.trans (hb.mono h.z.size),h.x.below hb h.x.lt,h.y.below hb h.y.lt,h.r1.step hb,h.r2.below hb h.r2.lt,h.r3.step hb,h.r4.step hb,(h.r.below hb (Nat.le_refl _)).more hb.size,h.f,h.s,h.e3,h.e4,h.f3,h.f4,h.ne⟩
theorem Ad18.congr {w0 w:World} {S:Sv14} {A0 A1 A2 A3 A4:Option Addr} {n0 n1 n2 n3 n4 c0 c1 c2 c3 c4:Nat} {sq:Int} {g1 g2 g3 g4:Nat} {qc qt qt':Nat->Nat × Nat} {A:Option Addr} {l:List Nat} {W:World} (h:Ad18 w0 w S A0 A1 A2 A3 A4 n0 n1 n2 n3 n4 c0 c1 c2 c3 c4 sq g1 g2 g3 g4 qc qt A l W) (e:qt = qt'):Ad18 w0 w S A0 A1 A2 A3 A4 n0 n1 n2 n3 n4 c0 c1 c2 c3 c4 sq g1 g2 g3 g4 qc qt' A l W:=e ▸ h
theorem Ad18.row {w0 w:World} {S:Sv14} {A0 A1 A2 A3 A4:Option Addr} {n0 n1 n2 n3 n4 c0 c1 c2 c3 c4:Nat} {sq:Int} {g1 g2 g3 g4:Nat} {qc qt:Nat->Nat × Nat} {A B:Option Addr} {l l2:List Nat} {W:World} (h:Ad18 w0 w S A0 A1 A2 A3 A4 n0 n1 n2 n3 n4 c0 c1 c2 c3 c4 sq g1 g2 g3 g4 qc qt A l W) (h1:Rd W W.heap.size B l2) (h2:Fa17 w.heap.size B l2):Ad18 w0 w S A0 A1 A2 A3 A4 n0 n1 n2 n3 n4 c0 c1 c2 c3 c4 sq g1 g2 g3 g4 qc qt B l2 W :=
 ⟨h.k,h.z,h.x,h.y,h.r1,h.r2,h.r3,h.r4,h1,h2,h.s,h.e3,h.e4,h.f3,h.f4,h.ne⟩
def Ax18 (w0 w:World) (S:Sv14) (A0 A1 A2 A3 A4:Option Addr) (n0 n1 n2 n3 n4 c0 c1 c2 c3 c4:Nat) (sq:Int) (g1 g2 g3 g4:Nat) (A:Option Addr) (l:List Nat) (W:World):Prop:=∃ qc qt,Ad18 w0 w S A0 A1 A2 A3 A4 n0 n1 n2 n3 n4 c0 c1 c2 c3 c4 sq g1 g2 g3 g4 qc qt A l W
theorem Ax18.step {w0 w:World} {S:Sv14} {A0 A1 A2 A3 A4:Option Addr} {n0 n1 n2 n3 n4 c0 c1 c2 c3 c4:Nat} {sq:Int} {g1 g2 g3 g4:Nat} {A:Option Addr} {l:List Nat} {W W':World} (h:Ax18 w0 w S A0 A1 A2 A3 A4 n0 n1 n2 n3 n4 c0 c1 c2 c3 c4 sq g1 g2 g3 g4 A l W) (hb:Below W.heap.size W W'):Ax18 w0 w S A0 A1 A2 A3 A4 n0 n1 n2 n3 n4 c0 c1 c2 c3 c4 sq g1 g2 g3 g4 A l W':=by
 obtain ⟨qc,qt,h⟩:=h;exact ⟨qc,qt,h.step hb⟩
theorem Ax18.x {w0 w:World} {S:Sv14} {A0 A1 A2 A3 A4:Option Addr} {n0 n1 n2 n3 n4 c0 c1 c2 c3 c4:Nat} {sq:Int} {g1 g2 g3 g4:Nat} {A:Option Addr} {l:List Nat} {W:World} (h:Ax18 w0 w S A0 A1 A2 A3 A4 n0 n1 n2 n3 n4 c0 c1 c2 c3 c4 sq g1 g2 g3 g4 A l W):Blk W (w.heap.size + 1) 28 #[.slice A0 n0 c0,.slice A1 n1 c1,.slice A2 n2 c2,.slice A3 n3 c3,.slice A4 n4 c4,.int .i64 sq]:=by
 obtain ⟨_,_,h⟩:=h;exact h.x
theorem Ax18.y {w0 w:World} {S:Sv14} {A0 A1 A2 A3 A4:Option Addr} {n0 n1 n2 n3 n4 c0 c1 c2 c3 c4:Nat} {sq:Int} {g1 g2 g3 g4:Nat} {A:Option Addr} {l:List Nat} {W:World} (h:Ax18 w0 w S A0 A1 A2 A3 A4 n0 n1 n2 n3 n4 c0 c1 c2 c3 c4 sq g1 g2 g3 g4 A l W):Blk W w.heap.size 104 #[.slice (some ⟨g1,0,none⟩) n1 n1,.slice (some ⟨g2,0,none⟩) n0 n0,.slice (some ⟨g3,0,none⟩) n0 n0,.slice (some ⟨g4,0,none⟩) n1 n1]:=by
 obtain ⟨_,_,h⟩:=h;exact h.y
theorem Ax18.z {w0 w:World} {S:Sv14} {A0 A1 A2 A3 A4:Option Addr} {n0 n1 n2 n3 n4 c0 c1 c2 c3 c4:Nat} {sq:Int} {g1 g2 g3 g4:Nat} {A:Option Addr} {l:List Nat} {W:World} (h:Ax18 w0 w S A0 A1 A2 A3 A4 n0 n1 n2 n3 n4 c0 c1 c2 c3 c4 sq g1 g2 g3 g4 A l W):Below w0.heap.size w0 W:=by
 obtain ⟨_,_,h⟩:=h;exact h.z
theorem ib18_putq {w:World} {g n m k:Nat} {M:Nat->Nat} {q:Nat->Nat × Nat} (h:Ib13 w g n M) {g':Nat} (r:Qr18 w g' m q) (x y:Value):Ib13 (putq18 w g' k x y) g n M:=by
 have hne:g≠g':=by
  obtain ⟨es,h1,_⟩:=r;exact ib17_blk h h1 (by decide)
 exact (h.far hne _).far hne _
theorem bb18_putq {w:World} {g n m k:Nat} {M:Nat->Bool} {q:Nat->Nat × Nat} (h:Bb13 w g n M) {g':Nat} (r:Qr18 w g' m q) (x y:Value):Bb13 (putq18 w g' k x y) g n M:=by
 have hne:g≠g':=by
  obtain ⟨es,h1,_⟩:=r;exact bb17_blk h h1 (by decide)
 exact (h.far17 hne _).far17 hne _
theorem Ad18.put3 {w0 w:World} {S:Sv14} {A0 A1 A2 A3 A4:Option Addr} {n0 n1 n2 n3 n4 c0 c1 c2 c3 c4:Nat} {sq:Int} {g1 g2 g3 g4:Nat} {qc qt:Nat->Nat × Nat} {A:Option Addr} {l:List Nat} {W:World} (h:Ad18 w0 w S A0 A1 A2 A3 A4 n0 n1 n2 n3 n4 c0 c1 c2 c3 c4 sq g1 g2 g3 g4 qc qt A l W) {j a b:Nat} (hj:j < n0) {D1 D2:Option Addr} {k1 t1 k2 t2 L1 L2:Nat} (hx:Nv W L1 (.slice D1 k1 t1) a) (hy:Nv W L2 (.slice D2 k2 t2) b) :
  Ad18 w0 w S A0 A1 A2 A3 A4 n0 n1 n2 n3 n4 c0 c1 c2 c3 c4 sq g1 g2 g3 g4 (upd qc j (a,b)) qt A l (putq18 W g3 j (.slice D1 k1 t1) (.slice D2 k2 t2)) :=
 ⟨bk17_trans (bk17_trans h.k (bk17_set (p:=⟨g3,j * 2,none⟩) h.f3 (.inl rfl) _)) (bk17_set (p:=⟨g3,j * 2 + 1,none⟩) h.f3 (.inl rfl) _),below_putq18 h.z h.f3 _ _,h.x.putq18 (by have:=h.e3; omega) _ _,h.y.putq18 (by have:=h.e3; omega) _ _,bb18_putq h.r1 h.r3 _ _,ib18_putq h.r2 h.r3 _ _,h.r3.put hj hx hy,h.r4.far2 (fun e => h.ne e.symm) h.r3 hj _ _,
  rd17_far (p:=⟨g3,j * 2 + 1,none⟩) (rd17_far (p:=⟨g3,j * 2,none⟩) h.r h.f h.e3 _) h.f h.e3 _,h.f,h.s,h.e3,h.e4,h.f3,h.f4,h.ne⟩
theorem Ad18.put4 {w0 w:World} {S:Sv14} {A0 A1 A2 A3 A4:Option Addr} {n0 n1 n2 n3 n4 c0 c1 c2 c3 c4:Nat} {sq:Int} {g1 g2 g3 g4:Nat} {qc qt:Nat->Nat × Nat} {A:Option Addr} {l:List Nat} {W:World} (h:Ad18 w0 w S A0 A1 A2 A3 A4 n0 n1 n2 n3 n4 c0 c1 c2 c3 c4 sq g1 g2 g3 g4 qc qt A l W) {j a b:Nat} (hj:j < n1) {D1 D2:Option Addr} {k1 t1 k2 t2 L1 L2:Nat} (hx:Nv W L1 (.slice D1 k1 t1) a) (hy:Nv W L2 (.slice D2 k2 t2) b) :
  Ad18 w0 w S A0 A1 A2 A3 A4 n0 n1 n2 n3 n4 c0 c1 c2 c3 c4 sq g1 g2 g3 g4 qc (upd qt j (a,b)) A l (putq18 W g4 j (.slice D1 k1 t1) (.slice D2 k2 t2)) :=
 ⟨bk17_trans (bk17_trans h.k (bk17_set (p:=⟨g4,j * 2,none⟩) h.f4 (.inr rfl) _)) (bk17_set (p:=⟨g4,j * 2 + 1,none⟩) h.f4 (.inr rfl) _),below_putq18 h.z h.f4 _ _,h.x.putq18 (by have:=h.e4; omega) _ _,h.y.putq18 (by have:=h.e4; omega) _ _,bb18_putq h.r1 h.r4 _ _,ib18_putq h.r2 h.r4 _ _,h.r3.far2 h.ne h.r4 hj _ _,h.r4.put hj hx hy,
  rd17_far (p:=⟨g4,j * 2 + 1,none⟩) (rd17_far (p:=⟨g4,j * 2,none⟩) h.r h.f h.e4 _) h.f h.e4 _,h.f,h.s,h.e3,h.e4,h.f3,h.f4,h.ne⟩
theorem add18 (w0:World) (S:Sv14) (A0 A1 A2 A3 A4:Option Addr) (n0 n1 n2 n3 n4 c0 c1 c2 c3 c4:Nat) (sq:Int) (g1 g2 g3 g4:Nat) (c:Nat) (qc qt:Nat->Nat × Nat) (wC wT:Nat->Rat) (w:World) (hs:SA14 w0 S A0 A1 A2 A3 A4 n0 n1 n2 n3 n4 c0 c1 c2 c3 c4 sq) (hf:Fine14 S) (hw:Wo18 S wC wT) (hb:Below w0.heap.size w0 w) (hr1:Bb13 w g1 n1 (cntb17 S)) (hr2:Ib13 w g2 n0 (fun x => amn17 S ((x:Nat):Int))) (hr3:Qr18 w g3 n0 qc) (hr4:Qr18 w g4 n1 qt) (hf3:w0.heap.size<=g3) (hf4:w0.heap.size<=g4) (hne:g3≠g4)
  (hu:us14 usC S.C (c:Int) = true) (hsm:∀ k,Sm18 (qt k)) (hbk:∀ j,j∈bck15 S (c:Int)->j < S.T.length/\qt j = qr18 (wT j)) :
  Calls Tryz.prog 92 #[.agg #[.slice (some ⟨g1,0,none⟩) n1 n1,.slice (some ⟨g2,0,none⟩) n0 n0,.slice (some ⟨g3,0,none⟩) n0 n0,.slice (some ⟨g4,0,none⟩) n1 n1],(.agg #[.slice A0 n0 c0,.slice A1 n1 c1,.slice A2 n2 c2,.slice A3 n3 c3,.slice A4 n4 c4,.int .i64 sq]),.int .i64 (c:Int)] w fun e w' => e = .returned (.tuple #[])/\Bk13 w0.heap.size g3 (some g4) w w'/\Qr18 w' g3 n0 (upd qc c (qr18 (wC c)))/\Qr18 w' g4 n1 (adq18 S wT (isd15 S (c:Int)) qt (isd15 S (c:Int)).length):=by
 obtain ⟨hwc,hwt⟩:=hw.small hf;obtain ⟨hfc,hft,hfs⟩:=hw.fits hf;have hc0:c < n0:=by have:=us15_lt hu; have:=hs.l0; omega
 have HCO:Hid (∀ W,Ad18 w0 w S A0 A1 A2 A3 A4 n0 n1 n2 n3 n4 c0 c1 c2 c3 c4 sq g1 g2 g3 g4 qc qt none [] W->Calls Tryz.prog 105 #[.agg #[.slice (some ⟨g1,0,none⟩) n1 n1,.slice (some ⟨g2,0,none⟩) n0 n0,.slice (some ⟨g3,0,none⟩) n0 n0,.slice (some ⟨g4,0,none⟩) n1 n1],(.agg #[.slice A0 n0 c0,.slice A1 n1 c1,.slice A2 n2 c2,.slice A3 n3 c3,.slice A4 n4 c4,.int .i64 sq]),.int .i64 (c:Int)] W (RetQ W (qr18 (wC c)).1 (qr18 (wC c)).2)):=qz (fun W h => by
  by_cases h0:c = 0
  ·
   subst h0;have hA:=amn17_int hf.2.2.2.2.1 ((0:Nat):Int);have hbd:=amt17_bound hf.2.2.2.2.1 0 S.T.length;have h96:S.T.length<=96:=hf.2.2.1.2.1.1;have hA2:((amn17 S ((0:Nat):Int):Nat):Int) = amt17 S 0 S.T.length:=hA
   have h1:=coin18_base S A0 A1 A2 A3 A4 n0 n1 n2 n3 n4 c0 c1 c2 c3 c4 sq g1 g2 g3 g4 (fun x => amn17 S ((x:Nat):Int)) W (h.s.step h.z) h.r2 hc0 (by omega)
   have h2:qr18 (wC 0) = (amn17 S ((0:Nat):Int),1):=by
    rw [hw.c 0,if_pos rfl,<- hA2];exact qr18_nat _
   rw [h2];exact h1
  ·
   have h1:=coin18_more S A0 A1 A2 A3 A4 n0 n1 n2 n3 n4 c0 c1 c2 c3 c4 sq g1 g2 g3 g4 c qt wT W (h.s.step h.z) h.r4 h0 (by
    have h2:=hs.l1;have h3:S.T.length<=96:=hf.2.2.1.2.1.1;have h4:=tks15_len S (fnd15 2 (c:Int)) S.T.length;unfold bck15;rw [if_pos hu]
    omega) (fun j hj => ⟨by have:=(hbk j hj).1; have:=hs.l1; omega,(hbk j hj).2⟩) (fun k => (hwt k).2.1) hsm
   rw [<- hw.coin_bck h0 hu] at h1
   exact h1)
 have HTI:Hid (∀ (qd:Nat->Nat × Nat) (A:Option Addr) (l:List Nat) (W:World) (xu:Bool) (na:Nat) (xk xt:Int) (xo:Bool) (j:Nat),cntb17 S j = true->(gt14 S.T j).c = (c:Int)->(gt14 S.T j).a = (na:Int)->Ad18 w0 w S A0 A1 A2 A3 A4 n0 n1 n2 n3 n4 c0 c1 c2 c3 c4 sq g1 g2 g3 g4 (upd qc c (qr18 (wC c))) qd A l W ->
   Calls Tryz.prog 107 #[.agg #[.slice (some ⟨g1,0,none⟩) n1 n1,.slice (some ⟨g2,0,none⟩) n0 n0,.slice (some ⟨g3,0,none⟩) n0 n0,.slice (some ⟨g4,0,none⟩) n1 n1],.agg #[.bool xu,.int .i64 (c:Int),.int .i64 (na:Int),.int .i64 xk,.int .i64 xt,.bool xo]] W (RetQ W (qr18 (wT j)).1 (qr18 (wT j)).2)):=qz (fun qd A l W xu na xk xt xo j hn hcj ha h => by
  obtain ⟨hp,ht⟩:=hw.tk hf.2.2.2.2.1 hn hcj ha;have hl:=(cntb17_yes.1 hn).lt;have hta:=(hf.2.2.2.2.1 j hl.1 hl.2)
  have hA:=amn17_int hf.2.2.2.2.1 ((c:Nat):Int);have hbd:=amt17_bound hf.2.2.2.2.1 (c:Int) S.T.length;have h96:S.T.length<=96:=hf.2.2.1.2.1.1
  have h1:=ticket18 (some ⟨g1,0,none⟩) (some ⟨g4,0,none⟩) n1 n1 g2 g3 n0 n1 n1 xu c na xk xt xo (fun x => amn17 S ((x:Nat):Int)) (upd qc c (qr18 (wC c))) (wC c) W h.r2 h.r3 hc0 (by have:=hta.2.2.1; omega) (by show amn17 S (c:Int) < _; omega) hp (hwc c).2.1 (by rw [upd_at]) (by rw [upd_at]; exact hfc c);rw [ht]
  exact h1)
 obtain ⟨l,hl⟩:=exq (isd15 S (c:Int));have HIS:=qz (fun W (h:Ad18 w0 w S A0 A1 A2 A3 A4 n0 n1 n2 n3 n4 c0 c1 c2 c3 c4 sq g1 g2 g3 g4 (upd qc c (qr18 (wC c))) qt none [] W) => issued17 (.agg #[.slice A0 n0 c0,.slice A1 n1 c1,.slice A2 n2 c2,.slice A3 n3 c3,.slice A4 n4 c4,.int .i64 sq]) S (c:Int) W h.st);have hll:=isd17_len S (c:Int)
 have HMB:=qz (fun j => (isd17_mem hu (j:=j)).1);rw [hl] at HIS HMB hll ⊢;obtain ⟨m,hm⟩:=exq l.length;have HM:=qz hm;have hmn:m<=1000:=by have:=hs.l1; have:=hs.m1; omega
 have HSA:=qz hs;have HL1:=qz hs.l1;have HTT:=qz hf.2.2.2.2.1;have hm1:=hs.m1;have hk1:=Blk.new w 104 #[.slice (some ⟨g1,0,none⟩) n1 n1,.slice (some ⟨g2,0,none⟩) n0 n0,.slice (some ⟨g3,0,none⟩) n0 n0,.slice (some ⟨g4,0,none⟩) n1 n1]
 have hb1:=b1' w (.cells #[.slice (some ⟨g1,0,none⟩) n1 n1,.slice (some ⟨g2,0,none⟩) n0 n0,.slice (some ⟨g3,0,none⟩) n0 n0,.slice (some ⟨g4,0,none⟩) n1 n1] 104);obtain ⟨W1,hW1⟩:=exq (w.alloc (.cells #[.slice (some ⟨g1,0,none⟩) n1 n1,.slice (some ⟨g2,0,none⟩) n0 n0,.slice (some ⟨g3,0,none⟩) n0 n0,.slice (some ⟨g4,0,none⟩) n1 n1] 104))
 have hz1:W1.heap.size = w.heap.size + 1:=by rw [<- hW1]; simp
 rw [hW1] at hb1 hk1;have hb2:=b1' W1 (.cells #[.slice A0 n0 c0,.slice A1 n1 c1,.slice A2 n2 c2,.slice A3 n3 c3,.slice A4 n4 c4,.int .i64 sq] 28);have hk2:=Blk.new W1 28 #[.slice A0 n0 c0,.slice A1 n1 c1,.slice A2 n2 c2,.slice A3 n3 c3,.slice A4 n4 c4,.int .i64 sq]
 obtain ⟨W2,hW2⟩:=exq (W1.alloc (.cells #[.slice A0 n0 c0,.slice A1 n1 c1,.slice A2 n2 c2,.slice A3 n3 c3,.slice A4 n4 c4,.int .i64 sq] 28));have hz2:W2.heap.size = w.heap.size + 2:=by rw [<- hW2]; simp; omega
 rw [hW2,hz1] at hk2;rw [hW2] at hb2;have hg:=hb1.trans (hb2.mono hb1.size)
 have HQ0:Hid (Ad18 w0 w S A0 A1 A2 A3 A4 n0 n1 n2 n3 n4 c0 c1 c2 c3 c4 sq g1 g2 g3 g4 qc qt none [] W2):=qz ⟨bk17_below hb.size hg,hb.trans (hg.mono hb.size),hk2,hk1.below hb2 hk1.lt,hr1.step hg,hr2.below hg hr2.lt,hr3.step hg,hr4.step hg,fun h => absurd rfl h,fun h => absurd rfl h,hs,hr3.lt,hr4.lt,hf3,hf4,hne⟩;have cc0:(0:Int)<=(c:Int):=by omega
 have cc1:(c:Int) < (n0:Int):=by omega
 clear hwc hwt hfc hft hfs hk1 hb1 hb2 hk2 hg hs hf hw hb hr1 hr2 hr3 hr4 hf3 hf4 hne hu hsm hbk hl hll hm;go_enter Tryz.func92,Tryz.ntmps92;go_upto_region 1 with (fail)
 try rw [hz1]
 clear hW1 hW2 hz1 hz2;have HAD:=qz (HQ0.out.step (Below.refl _ W2).drew);have HQA:Hid (Ax18 w0 w S A0 A1 A2 A3 A4 n0 n1 n2 n3 n4 c0 c1 c2 c3 c4 sq g1 g2 g3 g4 none [] W2):=qz ⟨_,_,HQ0.out⟩;clear HQ0;have HXN:Hid (Ax18 w0 w S A0 A1 A2 A3 A4 n0 n1 n2 n3 n4 c0 c1 c2 c3 c4 sq g1 g2 g3 g4 none [] W2.drew):=qz (HQA.out.step (Below.refl _ _).drew);clear HQA
 obtain ⟨wn,hwn⟩:=exq W2.drew;rw [hwn] at HXN HAD;go_wp2_with fail;refine wp_region_held_drew (S:=Ax18 w0 w S A0 A1 A2 A3 A4 n0 n1 n2 n3 n4 c0 c1 c2 c3 c4 sq g1 g2 g3 g4 none []) (by kernel_rfl) (by rw [hwn]; exact HXN.out) (fun hHeld => ?_);rw [hwn] at hHeld ⊢;clear hwn;have HBS:=HXN;refine tkq 0 ?_;refine tk 1 (v:=?_) (fun W hS => ?_) ?_;rotate_left
 ·
  try dsimp only at hS
  have z0:=hS.y.cell 2;go_simp
  try with_reducible rfl
 try simp only [Act.put,pt1,pt2,pt3]
 refine tkq 2 ?_;refine tk 3 (v:=?_) (fun W hS => ?_) ?_;rotate_left
 ·
  try dsimp only at hS
  obtain ⟨z0,z1,z2,z3⟩:=ce4 hS.y;go_simp
  try with_reducible rfl
 try simp only [Act.put,pt1,pt2,pt3]
 refine tk 4 (v:=?_) (fun W hS => ?_) ?_;rotate_left
 ·
  try dsimp only at hS
  obtain ⟨z0,z1,z2,z3,z4,z5⟩:=ce6 hS.x;go_simp
  try with_reducible rfl
 try simp only [Act.put,pt1,pt2,pt3]
 refine tkq 5 ?_;refine rdy 6 (fun K hK => ?_);have HBS0:=HBS;go_simp;refine (HCO.out _ HAD.out).mono ?_;rintro e wn ⟨E1,j1,o1,E2,j2,o2,rfl,hx,hy,hb⟩;have HBS:=qz (HBS0.out.step hb);have HAD:=qz (HAD.out.step hb);have HX:=qz hx;have HY:=qz hy;clear hb HBS0 hx hy;refine koq hK HBS.out (fun hHeld=>?_);clear hK K;refine tkq 7 ?_;refine rdy 8 (fun K hK => ?_)
 obtain ⟨_,_,_,_,_,_,y1,y2,_,_,yf1,yf2⟩:=HAD.out.r3.cells (k:=c) (by omega);have HAD0:=HAD;go_simp;obtain ⟨wm,hwm⟩:=exq ((wn.setCell ⟨g3,c * 2,none⟩ (.slice E1 j1 o1)).setCell ⟨g3,c * 2 + 1,none⟩ (.slice E2 j2 o2))
 have HAD:Hid (Ad18 w0 w S A0 A1 A2 A3 A4 n0 n1 n2 n3 n4 c0 c1 c2 c3 c4 sq g1 g2 g3 g4 (upd qc c (qr18 (wC c))) qt none [] wm):=qz (by rw [<- hwm]; exact HAD0.out.put3 (by omega) HX.out HY.out);have HBS:Hid (Ax18 w0 w S A0 A1 A2 A3 A4 n0 n1 n2 n3 n4 c0 c1 c2 c3 c4 sq g1 g2 g3 g4 none [] wm):=qz ⟨_,_,HAD.out⟩;rw [hwm];clear hwm y1 y2 yf1 yf2 HAD0 HX HY
 obtain ⟨wn,hwn⟩:∃ W,W = wm:=⟨_,rfl⟩
 subst hwn;refine koq hK HBS.out (fun hHeld=>?_);clear hK K;refine wpAnyH_done (by kernel_rfl) ?_ _;clear hHeld;have HQ1:=HAD;clear HXN HCO HBS HAD;obtain ⟨x0,x1,x2,x3,x4,x5⟩:=ce6 HQ1.out.x;go_wp2_with fail;refine (HIS.out _ HQ1.out).mono ?_;rintro e w3 ⟨A,ca,rfl,hr3,hfa3,hb3⟩;rw [HM.out]
 have HW3:Hid (Ad18 w0 w S A0 A1 A2 A3 A4 n0 n1 n2 n3 n4 c0 c1 c2 c3 c4 sq g1 g2 g3 g4 (upd qc c (qr18 (wC c))) (adq18 S wT l qt 0) A l w3):=qz ((HQ1.out.step hb3).row hr3 (hfa3.more HQ1.out.k.size));clear HIS hr3 hfa3 hb3 HQ1 x0 x1 x2 x3 x4 x5;go_wp2_with fail
 go_loopw [20] (fun i wr => ∃ k:Nat,i = .int .i64 (k:Int)/\k<=m/\Hid (Ad18 w0 w S A0 A1 A2 A3 A4 n0 n1 n2 n3 n4 c0 c1 c2 c3 c4 sq g1 g2 g3 g4 (upd qc c (qr18 (wC c))) (adq18 S wT l qt k) A l wr)) (fun i _ => m - (intOf i).toNat)
 case atStart => exact ⟨0,rfl,by omega,HW3⟩
 case round =>
  clear HW3;obtain ⟨k,rfl,hk,HW⟩:=hrel;by_cases hkm:k < m
  ·
   obtain ⟨ga,oa,hA,hab,q0⟩:=HW.out.r.at_ (show k < l.length by rw [HM.out]; exact hkm);obtain ⟨j,hj⟩:=exq (nth l k);rw [hj] at q0;have hjl:j∈l:=by rw [<- hj,nth_in (by rw [HM.out]; exact hkm)]; exact List.getElem_mem _
   have hjn:=(HMB.out j hjl).1;have hjc:=(HMB.out j hjl).2.2;have hju:=(HMB.out j hjl).2.1;have i0:(0:Int)<=(k:Int):=by omega
   have i1:(k:Int) < (m:Int):=by omega
   have j0:(0:Int)<=(j:Int):=by omega
   have hj1:j < n1:=by have:=HL1.out; omega
   have j1:(j:Int) < (n1:Int):=by omega
   have p0:=(HW.out.r1.cells hj1).1;have t0:=HW.out.y.cell 0;have HNT:Hid (adq18 S wT l qt (k + 1) = if cntb17 S j = true then upd (adq18 S wT l qt k) j (qr18 (wT j)) else adq18 S wT l qt k):=qz (by rw [adq18,hj]);obtain ⟨b,hb⟩:=exq (cntb17 S j);have HNJ:=qz hb;rw [hb] at p0 HNT;clear hab hjl hb
   cases b with
   | false =>
    have HN:Hid (Ad18 w0 w S A0 A1 A2 A3 A4 n0 n1 n2 n3 n4 c0 c1 c2 c3 c4 sq g1 g2 g3 g4 (upd qc c (qr18 (wC c))) (adq18 S wT l qt (k + 1)) A l wr):=qz (HW.out.congr (by rw [HNT.out]; rfl));clear HNT HW hj hjc hju;subst hA;go_wp2_with fail;go_roundw
    case rel => exact ⟨k + 1,by go_num,by omega,HN⟩
    case measure => simp [intOf]; omega
   | true =>
    have hpa:=(HTT.out j hjn hju).2.1;obtain ⟨gt,ot,hAt,hbt,hq⟩:=Lq.at_ len14T (by omega) HSA.out.r1 hjn;have HAT:=qz hAt;obtain ⟨x,hx⟩:=exq (gt14 S.T j);have HTJ:=qz (fun A W xu na xk xt xo => HTI.out (adq18 S wT l qt k) A l W xu na xk xt xo j HNJ.out);rw [hx] at hq hjc hpa HTJ;obtain ⟨xu,xc,xa,xk,xt,xo⟩:=x;dsimp only at hjc hpa HTJ
    obtain ⟨na,rfl⟩:∃ n:Nat,xa = (n:Int):=⟨xa.toNat,by omega⟩
    subst hjc;have HE0:Hid (w0.cell? ⟨gt,ot + j * 6,none⟩ = some (.bool xu)):=qz (hq 0 _ rfl);have HE1:Hid (w0.cell? ⟨gt,ot + j * 6 + 1,none⟩ = some (.int .i64 (c:Int))):=qz (hq 1 _ rfl);have HE2:Hid (w0.cell? ⟨gt,ot + j * 6 + 2,none⟩ = some (.int .i64 (na:Int))):=qz (hq 2 _ rfl)
    have HE3:Hid (w0.cell? ⟨gt,ot + j * 6 + 3,none⟩ = some (.int .i64 xk)):=qz (hq 3 _ rfl);have HE4:Hid (w0.cell? ⟨gt,ot + j * 6 + 4,none⟩ = some (.int .i64 xt)):=qz (hq 4 _ rfl);have HE5:Hid (w0.cell? ⟨gt,ot + j * 6 + 5,none⟩ = some (.bool xo)):=qz (hq 5 _ rfl);have HTK:=qz (fun A W h => HTJ.out A W xu na xk xt xo rfl rfl h)
    have HNX:Hid (adq18 S wT l qt (k + 1) = upd (adq18 S wT l qt k) j (qr18 (wT j))):=qz (by rw [HNT.out]; rfl);clear hq hx hbt hj hpa HNT HTJ hju hAt hjn;subst hA;go_upto_region 6 with (fail)
    clear p0 t0 q0;have HAD:=qz (HW.out.step (Below.refl _ wr).drew);have HQA:Hid (Ax18 w0 w S A0 A1 A2 A3 A4 n0 n1 n2 n3 n4 c0 c1 c2 c3 c4 sq g1 g2 g3 g4 (some ⟨ga,oa,none⟩) l wr):=qz ⟨_,_,HW.out⟩;clear HW
    have HXN:Hid (Ax18 w0 w S A0 A1 A2 A3 A4 n0 n1 n2 n3 n4 c0 c1 c2 c3 c4 sq g1 g2 g3 g4 (some ⟨ga,oa,none⟩) l wr.drew):=qz (HQA.out.step (Below.refl _ _).drew);clear HQA;obtain ⟨wn,hwn⟩:=exq wr.drew;rw [hwn] at HXN HAD;go_wp2_with fail
    refine wp_region_held_drew (S:=Ax18 w0 w S A0 A1 A2 A3 A4 n0 n1 n2 n3 n4 c0 c1 c2 c3 c4 sq g1 g2 g3 g4 (some ⟨ga,oa,none⟩) l) (by kernel_rfl) (by rw [hwn]; exact HXN.out) (fun hHeld => ?_);rw [hwn] at hHeld ⊢;clear hwn;have HBS:=HXN;refine tkq 0 ?_;refine tk 1 (v:=?_) (fun W hS => ?_) ?_;rotate_left
    ·
     try dsimp only at hS
     have z0:=hS.y.cell 3;go_simp
     try with_reducible rfl
    try simp only [Act.put,pt1,pt2,pt3]
    refine tkq 2 ?_;refine tk 3 (v:=?_) (fun W hS => ?_) ?_;rotate_left
    ·
     try dsimp only at hS
     obtain ⟨z0,z1,z2,z3⟩:=ce4 hS.y;go_simp
     try with_reducible rfl
    try simp only [Act.put,pt1,pt2,pt3]
    refine tkq 4 ?_;refine tk 5 (v:=?_) (fun W hS => ?_) ?_;rotate_left
    ·
     try dsimp only at hS
     have z0:=hS.x.cell 1;rw [HAT.out] at z0;go_simp
     try with_reducible rfl
    try simp only [Act.put,pt1,pt2,pt3]
    refine tkq 6 ?_;refine tkq 7 ?_;refine tk 8 (v:=?_) (fun W hS => ?_) ?_;rotate_left
    ·
     try dsimp only at hS
     have z0:=(hS.z.cell (World.block_lt_of_cell? _ _ HE0.out)).trans HE0.out;have z1:=(hS.z.cell (World.block_lt_of_cell? _ _ HE1.out)).trans HE1.out;have z2:=(hS.z.cell (World.block_lt_of_cell? _ _ HE2.out)).trans HE2.out;have z3:=(hS.z.cell (World.block_lt_of_cell? _ _ HE3.out)).trans HE3.out
     have z4:=(hS.z.cell (World.block_lt_of_cell? _ _ HE4.out)).trans HE4.out;have z5:=(hS.z.cell (World.block_lt_of_cell? _ _ HE5.out)).trans HE5.out;go_simp
     try with_reducible rfl
    try simp only [Act.put,pt1,pt2,pt3]
    refine rdy 9 (fun K hK => ?_);have HBS0:=HBS;go_simp;refine (HTK.out _ _ HAD.out).mono ?_;rintro e wn ⟨E1,j1,o1,E2,j2,o2,rfl,hx,hy,hb⟩;have HBS:=qz (HBS0.out.step hb);have HAD:=qz (HAD.out.step hb);have HX:=qz hx;have HY:=qz hy;clear hb HBS0 hx hy;refine koq hK HBS.out (fun hHeld=>?_);clear hK K;refine tkq 10 ?_;refine rdy 11 (fun K hK => ?_)
    obtain ⟨_,_,_,_,_,_,y1,y2,_,_,yf1,yf2⟩:=HAD.out.r4.cells (k:=j) (by omega);have HAD0:=HAD;go_simp;obtain ⟨wm,hwm⟩:=exq ((wn.setCell ⟨g4,j * 2,none⟩ (.slice E1 j1 o1)).setCell ⟨g4,j * 2 + 1,none⟩ (.slice E2 j2 o2))
    have HAD:Hid (Ad18 w0 w S A0 A1 A2 A3 A4 n0 n1 n2 n3 n4 c0 c1 c2 c3 c4 sq g1 g2 g3 g4 (upd qc c (qr18 (wC c))) (upd (adq18 S wT l qt k) j (qr18 (wT j))) (some ⟨ga,oa,none⟩) l wm):=qz (by rw [<- hwm]; exact HAD0.out.put4 (by omega) HX.out HY.out)
    have HBS:Hid (Ax18 w0 w S A0 A1 A2 A3 A4 n0 n1 n2 n3 n4 c0 c1 c2 c3 c4 sq g1 g2 g3 g4 (some ⟨ga,oa,none⟩) l wm):=qz ⟨_,_,HAD.out⟩;rw [hwm];clear hwm y1 y2 yf1 yf2 HAD0 HX HY;obtain ⟨wn,hwn⟩:∃ W,W = wm:=⟨_,rfl⟩
    subst hwn;refine koq hK HBS.out (fun hHeld=>?_);clear hK K;refine wpAnyH_done (by kernel_rfl) ?_ _;clear hHeld;have HN:=qz (HAD.out.congr HNX.out.symm);clear HXN HTK HBS HAD HNX;go_wp2_with fail;go_roundw
    case rel => exact ⟨k + 1,by go_num,by omega,HN⟩
    case measure => simp [intOf]; omega
  ·
   obtain rfl:m = k:=by omega
   have i1:¬ (m:Int) < (m:Int):=by omega
   have HN:=qz HW.out;clear HW;go_wp2_with fail
   go_end0
   rw [HM.out];exact ⟨rfl,HN.out.k,HN.out.r3,HN.out.r4⟩
end
end Go.Proofs.YtkdmnlihpebbkaaGreat
