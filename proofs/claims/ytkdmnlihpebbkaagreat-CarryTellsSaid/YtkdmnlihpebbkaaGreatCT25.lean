import Derived.Test.YtkdmnlihpebbkaaGreatCT24
set_option linter.all false
set_option maxHeartbeats 8000000
namespace Go.Proofs.YtkdmnlihpebbkaaGreat
section
open Go.RowKit
set_option maxRecDepth 100000
structure Re18 (w:World) (S:Sv14) (A0 A1 A2 A3 A4:Option Addr) (n0 n1 n2 n3 n4 c0 c1 c2 c3 c4:Nat) (sq:Int) (gb g1 g2 g3 g4:Nat) (qc qt:Nat->Nat × Nat) (W:World):Prop where
 b:By16 w S A0 A1 A2 A3 A4 n0 n1 n2 n3 n4 c0 c1 c2 c3 c4 sq W
 o:Blk W (w.heap.size + 1) 104 #[.slice none 0 0,.slice none 0 0,.slice none 0 0,.slice none 0 0]
 v:Blk W gb 104 #[.slice (some ⟨g1,0,none⟩) n1 n1,.slice (some ⟨g2,0,none⟩) n0 n0,.slice (some ⟨g3,0,none⟩) n0 n0,.slice (some ⟨g4,0,none⟩) n1 n1]
 r1:Bb13 W g1 n1 (cntb17 S)
 r2:Ib13 W g2 n0 (fun x => amn17 S ((x:Nat):Int))
 r3:Qr18 W g3 n0 qc
 r4:Qr18 W g4 n1 qt
 f3:w.heap.size + 2<=g3
 f4:w.heap.size + 2<=g4
 ne:g3≠g4
theorem Re18.step {w:World} {S:Sv14} {A0 A1 A2 A3 A4:Option Addr} {n0 n1 n2 n3 n4 c0 c1 c2 c3 c4:Nat} {sq:Int} {gb g1 g2 g3 g4:Nat} {qc qt:Nat->Nat × Nat} {W W':World} (h:Re18 w S A0 A1 A2 A3 A4 n0 n1 n2 n3 n4 c0 c1 c2 c3 c4 sq gb g1 g2 g3 g4 qc qt W) (hb:Below W.heap.size W W'):Re18 w S A0 A1 A2 A3 A4 n0 n1 n2 n3 n4 c0 c1 c2 c3 c4 sq gb g1 g2 g3 g4 qc qt W' :=
 ⟨h.b.step hb,h.o.below hb h.o.lt,h.v.below hb h.v.lt,h.r1.step hb,h.r2.below hb h.r2.lt,h.r3.step hb,h.r4.step hb,h.f3,h.f4,h.ne⟩
theorem bb18_keep {L g g' g'' n:Nat} {M:Nat->Bool} {w w':World} (h:Bb13 w g n M) (k:Bk13 L g' (some g'') w w') (h1:g≠g') (h2:g≠g''):Bb13 w' g n M:=by
 obtain ⟨cs,e1,e2⟩:=h;exact ⟨cs,k.blk e1 h1 (by simpa using h2),e2⟩
theorem ib18_keep {L g g' g'' n:Nat} {M:Nat->Nat} {w w':World} (h:Ib13 w g n M) (k:Bk13 L g' (some g'') w w') (h1:g≠g') (h2:g≠g''):Ib13 w' g n M:=by
 obtain ⟨cs,e1,e2⟩:=h;exact ⟨cs,k.blk e1 h1 (by simpa using h2),e2⟩
theorem Re18.turn {w:World} {S:Sv14} {A0 A1 A2 A3 A4:Option Addr} {n0 n1 n2 n3 n4 c0 c1 c2 c3 c4:Nat} {sq:Int} {gb g1 g2 g3 g4:Nat} {qc qt qc' qt':Nat->Nat × Nat} {W W':World} (h:Re18 w S A0 A1 A2 A3 A4 n0 n1 n2 n3 n4 c0 c1 c2 c3 c4 sq gb g1 g2 g3 g4 qc qt W) (hk:Bk13 w.heap.size g3 (some g4) W W') (h3:Qr18 W' g3 n0 qc') (h4:Qr18 W' g4 n1 qt'):Re18 w S A0 A1 A2 A3 A4 n0 n1 n2 n3 n4 c0 c1 c2 c3 c4 sq gb g1 g2 g3 g4 qc' qt' W':=by
 have hf3:=h.f3;have hf4:=h.f4;have hB:Below w.heap.size w W':=h.b.b.b.trans hk.below;obtain ⟨c3,k3,_⟩:=h.r3;obtain ⟨c4,k4,_⟩:=h.r4;have ev3:gb≠g3:=fun e => qr18_blk h.r3 h.v (by decide) e.symm
 have ev4:gb≠g4:=fun e => qr18_blk h.r4 h.v (by decide) e.symm
 exact ⟨⟨⟨hB,hk.blk h.b.b.x (by omega) (by simp; omega),h.b.s.step hB⟩,h.b.s⟩,hk.blk h.o (by omega) (by simp; omega),hk.blk h.v ev3 (by simpa using ev4),bb18_keep h.r1 hk (bb17_blk h.r1 k3 (by decide)) (bb17_blk h.r1 k4 (by decide)),ib18_keep h.r2 hk (ib17_blk h.r2 k3 (by decide)) (ib17_blk h.r2 k4 (by decide)),h3,h4,h.f3,h.f4,h.ne⟩
def put4b18 (W:World) (b:Nat) (x0 x1 x2 x3:Value):World:=(((W.setCell ⟨b,0,none⟩ x0).setCell ⟨b,1,none⟩ x1).setCell ⟨b,2,none⟩ x2).setCell ⟨b,3,none⟩ x3
theorem put4b18_blk {W:World} {b:Nat} {t:TypeId} {y0 y1 y2 y3:Value} (h:Blk W b t #[y0,y1,y2,y3]) (x0 x1 x2 x3:Value):Blk (put4b18 W b x0 x1 x2 x3) b t #[x0,x1,x2,x3]:=by
 have:=(((h.set_ 0 x0).set_ 1 x1).set_ 2 x2).set_ 3 x3;exact this
theorem Qr18.put4b {W:World} {g n b:Nat} {q:Nat->Nat × Nat} {t:TypeId} {B0 B1 B2 B3:Option Addr} {m0 d0 m1 d1 m2 d2 m3 d3:Nat} (h:Qr18 W g n q) (hg:g≠b) (ho:Blk W b t #[.slice B0 m0 d0,.slice B1 m1 d1,.slice B2 m2 d2,.slice B3 m3 d3]) (x0 x1 x2 x3:Value):Qr18 (put4b18 W b x0 x1 x2 x3) g n q:=by
 have h0:=h.far (i:=0) hg (ho.cell 0) x0;have k0:=ho.set_ 0 x0;have h1:=h0.far (i:=1) hg (A:=B1) (m:=m1) (c:=d1) (k0.cell 1) x1;have k1:=k0.set_ 1 x1;have h2:=h1.far (i:=2) hg (A:=B2) (m:=m2) (c:=d2) (k1.cell 2) x2;have k2:=k1.set_ 2 x2;exact h2.far (i:=3) hg (A:=B3) (m:=m3) (c:=d3) (k2.cell 3) x3
def RetRe18 (w:World) (S:Sv14) (wC wT:Nat->Rat) (e:Ending) (w':World):Prop:=∃ g1 g2 g3 g4,e = .returned (.agg #[.slice (some ⟨g1,0,none⟩) S.T.length S.T.length,.slice (some ⟨g2,0,none⟩) S.C.length S.C.length,.slice (some ⟨g3,0,none⟩) S.C.length S.C.length,.slice (some ⟨g4,0,none⟩) S.T.length S.T.length])/\w.heap.size<=g3/\w.heap.size<=g4/\Qr18 w' g3 S.C.length (fun c => qr18 (wC c))/\Qr18 w' g4 S.T.length (fun k => qr18 (wT k))/\Below w.heap.size w w'
def ops18bs:{ o:Array Oper // (match Go.Func.body Tryz.f73 with | some c => regionOf17 c 1 | none => none) = some o }:=⟨_,rfl⟩
def ops18b:Array Oper:=ops18bs.1
section
variable {t0 t1 t2 t3 t4 t5 t6 t7 t8 t9 t10 t11 t12 t13 t14 t15 t16 t17 t18 t19 t20 t21 t22 t23 t24 t25 t26 t27 t28 t29 t30 t31:Value}
variable {Q:Exit->Act->World->Prop}
theorem laid18 {w wc:World} {S:Sv14} {A0 A1 A2 A3 A4:Option Addr} {n0 n1 n2 n3 n4 c0 c1 c2 c3 c4:Nat} {sq:Int} (hf:Fine14 S) (hb:By16 w S A0 A1 A2 A3 A4 n0 n1 n2 n3 n4 c0 c1 c2 c3 c4 sq wc) (ho:Blk wc (w.heap.size + 1) 104 #[.slice none 0 0,.slice none 0 0,.slice none 0 0,.slice none 0 0])
  (hP:∀ c a d v w,Q (.panic c) (Act.put a (some d) v) w->Q (.panic c) a w)
  (hQ:∀ (x6 x7 x8 x9 x10 x11 x12 x13 x14 x15 x16 x17 x18:Value) (wn:World) (gb g1 g2 g3 g4:Nat),Re18 w S A0 A1 A2 A3 A4 n0 n1 n2 n3 n4 c0 c1 c2 c3 c4 sq gb g1 g2 g3 g4 (fun _ => (0,1)) (fun _ => (0,1)) wn->Q .normal { tmps:=#[(.agg #[.slice A0 n0 c0,.slice A1 n1 c1,.slice A2 n2 c2,.slice A3 n3 c3,.slice A4 n4 c4,.int .i64 sq]),.pointer (some ⟨w.heap.size,0,none⟩),.pointer (some ⟨w.heap.size + 1,0,none⟩),.pointer (some ⟨gb,0,none⟩),t4,t5,x6,x7,x8,x9,x10,x11,x12,x13,x14,x15,x16,x17,x18,t19,t20,t21,t22,t23,t24,t25,t26,t27,t28,t29,t30,t31],defers:=[] } wn) :
  (Code.region 1 ops18b true).wp Tryz.prog Q { tmps:=#[(.agg #[.slice A0 n0 c0,.slice A1 n1 c1,.slice A2 n2 c2,.slice A3 n3 c3,.slice A4 n4 c4,.int .i64 sq]),.pointer (some ⟨w.heap.size,0,none⟩),.pointer (some ⟨w.heap.size + 1,0,none⟩),t3,t4,t5,t6,t7,t8,t9,t10,t11,t12,t13,t14,t15,t16,t17,t18,t19,t20,t21,t22,t23,t24,t25,t26,t27,t28,t29,t30,t31],defers:=[] } wc:=by
 have hm0:=hb.s.m0;have hm1:=hb.s.m1;have HL0:=qz hb.s.l0;have HL1:=qz hb.s.l1;have HTK:=qz (fun W (h:Bx14 w S A0 A1 A2 A3 A4 n0 n1 n2 n3 n4 c0 c1 c2 c3 c4 sq W) => tickets17 (.agg #[.slice A0 n0 c0,.slice A1 n1 c1,.slice A2 n2 c2,.slice A3 n3 c3,.slice A4 n4 c4,.int .i64 sq]) S W h.st hf)
 have HAM:=qz (fun W (h:Bx14 w S A0 A1 A2 A3 A4 n0 n1 n2 n3 n4 c0 c1 c2 c3 c4 sq W) => amounts17 (.agg #[.slice A0 n0 c0,.slice A1 n1 c1,.slice A2 n2 c2,.slice A3 n3 c3,.slice A4 n4 c4,.int .i64 sq]) S W h.st hf);have HSZ:Hid (∀ W,By16 w S A0 A1 A2 A3 A4 n0 n1 n2 n3 n4 c0 c1 c2 c3 c4 sq W->∀ W2,Below wc.heap.size wc W2->True):=qz (fun _ _ _ _ => trivial)
 have HXN:=qz (hb.step (Below.refl _ _).drew);have HR:=qz (ho.below (Below.refl wc.heap.size wc).drew ho.lt);clear hb ho hf;refine wp_region_held_drew (S:=By16 w S A0 A1 A2 A3 A4 n0 n1 n2 n3 n4 c0 c1 c2 c3 c4 sq) (by kernel_rfl) HXN.out (fun hHeld => ?_)
 change wpAnyH _ _ ops18b _ _ 15 #[false,false,false,false,false,false,false,false,false,false,false,false,false,false,false] _ _
 obtain ⟨wn,hwn⟩:=exq wc.drew;rw [hwn] at HXN HR hHeld;rw [hwn];clear hwn HSZ;have HBS:=HXN;refine tkp hP 0 (v:=?_) (fun W hS => ?_) ?_;rotate_left
 ·
  try dsimp only at hS
  obtain ⟨z0,z1,z2,z3,z4,z5⟩:=ce6 hS.b.x;go_simp
  try with_reducible rfl
 try simp only [Act.put,pt1,pt2,pt3]
 refine tkp hP 2 (v:=?_) (fun W hS => ?_) ?_;rotate_left
 ·
  try dsimp only at hS
  obtain ⟨z0,z1,z2,z3,z4,z5⟩:=ce6 hS.b.x;go_simp
  try with_reducible rfl
 try simp only [Act.put,pt1,pt2,pt3]
 refine tkpq hP 4 ?_;refine tkp hP 5 (v:=?_) (fun W hS => ?_) ?_;rotate_left
 ·
  try dsimp only at hS
  have z0:=hS.b.x.cell 0;go_simp
  try with_reducible rfl
 try simp only [Act.put,pt1,pt2,pt3]
 refine tkpq hP 6 ?_;refine tkpq hP 8 ?_;refine tkp hP 9 (v:=?_) (fun W hS => ?_) ?_;rotate_left
 ·
  try dsimp only at hS
  have z0:=hS.b.x.cell 1;go_simp
  try with_reducible rfl
 try simp only [Act.put,pt1,pt2,pt3]
 refine tkpq hP 10 ?_;refine wpAnyH_ready (rs:=[1,13]) (by kernel_rfl) (by simp) (AllReadyH.cons (op_of rfl) (fun K hK => ?_) (AllReadyH.cons (op_of rfl) (fun K hK => ?_) AllReadyH.nil))
 ·
  skip;have HBS0:=HBS;go_simp;refine (HTK.out _ HBS0.out.b).mono ?_;rintro e wn ⟨g1,rfl,_,hr,hb⟩;have HBS:=qz (HBS0.out.step hb);have HR:=qz (HR.out.below hb HR.out.lt);rw [HL1.out] at hr ⊢;have HR1:=qz hr;clear hb HBS0 hr;refine koq hK HBS.out (fun hHeld=>?_);clear hK K
  refine wpAnyH_ready (rs:=[3,13]) (by kernel_rfl) (by simp) (AllReadyH.cons (op_of rfl) (fun K hK => ?_) (AllReadyH.cons (op_of rfl) (fun K hK => ?_) AllReadyH.nil))
  ·
   skip;have HBS0:=HBS;go_simp;refine (HAM.out _ HBS0.out.b).mono ?_;rintro e wn ⟨g2,rfl,_,hr,hb⟩;have HBS:=qz (HBS0.out.step hb);have HR1:=qz (HR1.out.step hb);have HR:=qz (HR.out.below hb HR.out.lt);rw [HL0.out] at hr ⊢;have HR2:=qz hr;clear hb HBS0 hr;refine koq hK HBS.out (fun hHeld=>?_);clear hK K
   refine wpAnyH_ready (rs:=[7,13]) (by kernel_rfl) (by simp) (AllReadyH.cons (op_of rfl) (fun K hK => ?_) (AllReadyH.cons (op_of rfl) (fun K hK => ?_) AllReadyH.nil))
   ·
    skip;have HSW:Hid (w.heap.size + 2<=wn.heap.size):=qz (by have:=HR.out.lt; omega);have HBS0:=HBS;go_simp;refine (zeros18 n0 hm0 _).mono ?_;rintro e wn ⟨g3,rfl,hg,hr,hb⟩;have HBS:=qz (HBS0.out.step hb);have HR1:=qz (HR1.out.step hb);have HR2:=qz (HR2.out.below hb HR2.out.lt);have HR:=qz (HR.out.below hb HR.out.lt);have HR3:=qz hr
    have HFg3:Hid (w.heap.size + 2<=g3):=qz (by have:=HSW.out; omega);clear hb HBS0 hr hg;refine koq hK HBS.out (fun hHeld=>?_);clear hK K;refine wpAnyH_ready (rs:=[11,13]) (by kernel_rfl) (by simp) (AllReadyH.cons (op_of rfl) (fun K hK => ?_) (AllReadyH.cons (op_of rfl) (fun K hK => ?_) AllReadyH.nil))
    ·
     skip;have HSW:Hid (w.heap.size + 2<=wn.heap.size):=qz (by have:=HR.out.lt; omega);have HBS0:=HBS;go_simp;refine (zeros18 n1 hm1 _).mono ?_;have hlt3:=HR3.out.lt;rintro e wn ⟨g4,rfl,hg,hr,hb⟩;have HBS:=qz (HBS0.out.step hb);have HR1:=qz (HR1.out.step hb);have HR2:=qz (HR2.out.below hb HR2.out.lt);have HR3:=qz (HR3.out.step hb)
     have HR:=qz (HR.out.below hb HR.out.lt);have HR4:=qz hr;have HFg4:Hid (w.heap.size + 2<=g4):=qz (by have:=HSW.out; omega);have HNE:Hid (g3≠g4):=qz (by have:=hlt3; omega);clear hb HBS0 hr hg hlt3;refine koq hK HBS.out (fun hHeld=>?_);clear hK K;refine tkpq hP 12 ?_;refine rdy 13 (fun K hK => ?_);have HBS0:=HBS;have HRL:=HR.out.lt
     have hb:=b1' wn (.cells #[.slice none 0 0,.slice none 0 0,.slice none 0 0,.slice none 0 0] 104);have HBS:=qz (HBS0.out.step hb);have HR1:=qz (HR1.out.step hb);have HR2:=qz (HR2.out.below hb HR2.out.lt);have HR3:=qz (HR3.out.step hb);have HR4:=qz (HR4.out.step hb);have HR:=qz (HR.out.below hb HR.out.lt)
     have HV:=qz (Blk.new wn 104 #[.slice none 0 0,.slice none 0 0,.slice none 0 0,.slice none 0 0]);have HFgb:Hid (w.heap.size + 2<=wn.heap.size):=qz (by have:=HRL; omega);clear hb HBS0;obtain ⟨gb,hgb⟩:=exq wn.heap.size;obtain ⟨wm,hwm⟩:=exq (wn.alloc (.cells #[.slice none 0 0,.slice none 0 0,.slice none 0 0,.slice none 0 0] 104))
     rw [hwm] at HBS HR HV HR1 HR2 HR3 HR4;rw [hgb] at HV HFgb;go_simp;clear hgb hwm;obtain ⟨wn,hwn⟩:∃ W,W = wm:=⟨_,rfl⟩
     subst hwn;refine koq hK HBS.out (fun hHeld=>?_);clear hK K;refine rdy 14 (fun K hK => ?_);obtain ⟨x0,x1,x2,x3⟩:=ce4 HV.out;have xf0:=HV.out.frozen 0;have xf1:=HV.out.frozen 1;have xf2:=HV.out.frozen 2;have xf3:=HV.out.frozen 3;have HBS0:=HBS;go_simp
     obtain ⟨wm,hwm⟩:=exq ((((wn.setCell ⟨gb,0,none⟩ (.slice (some ⟨g1,0,none⟩) n1 n1)).setCell ⟨gb,1,none⟩ (.slice (some ⟨g2,0,none⟩) n0 n0)).setCell ⟨gb,2,none⟩ (.slice (some ⟨g3,0,none⟩) n0 n0)).setCell ⟨gb,3,none⟩ (.slice (some ⟨g4,0,none⟩) n1 n1));have hn1:=bb17_blk HR1.out HV.out (by decide);have hn2:=ib17_blk HR2.out HV.out (by decide)
     have hn3:=qr18_blk HR3.out HV.out (by decide);have hn4:=qr18_blk HR4.out HV.out (by decide);have HR1:=qz (show Bb13 wm g1 n1 _ by rw [<- hwm]; exact (((HR1.out.far17 hn1 _).far17 hn1 _).far17 hn1 _).far17 hn1 _);have HR2:=qz (show Ib13 wm g2 n0 _ by rw [<- hwm]; exact (((HR2.out.far hn2 _).far hn2 _).far hn2 _).far hn2 _)
     have HR3:=qz (show Qr18 wm g3 n0 _ by rw [<- hwm]; exact HR3.out.put4b hn3 HV.out _ _ _ _);have HR4:=qz (show Qr18 wm g4 n1 _ by rw [<- hwm]; exact HR4.out.put4b hn4 HV.out _ _ _ _);have hgb1:w.heap.size + 1≠gb:=by have:=HFgb.out; omega
     have HR:=qz (show Blk wm (w.heap.size + 1) 104 _ by rw [<- hwm]; exact (((HR.out.far hgb1 _).far hgb1 _).far hgb1 _).far hgb1 _);have hgb2:w.heap.size + 1<=gb:=by have:=HFgb.out; omega
     have HBS:=qz (HBS0.out.low (W':=wm) (by rw [<- hwm]; exact ((((Below.refl _ _).setCell hgb2 _).setCell hgb2 _).setCell hgb2 _).setCell hgb2 _))
     have HV:=qz (show Blk wm gb 104 #[.slice (some ⟨g1,0,none⟩) n1 n1,.slice (some ⟨g2,0,none⟩) n0 n0,.slice (some ⟨g3,0,none⟩) n0 n0,.slice (some ⟨g4,0,none⟩) n1 n1] by rw [<- hwm]; exact put4b18_blk HV.out _ _ _ _);rw [hwm];clear hwm x0 x1 x2 x3 xf0 xf1 xf2 xf3 hn1 hn2 hn3 hn4 hgb1 hgb2 HBS0;obtain ⟨wn,hwn⟩:∃ W,W = wm:=⟨_,rfl⟩
     subst hwn;refine koq hK HBS.out (fun hHeld=>?_);clear hK K;refine wpAnyH_done (by kernel_rfl) ?_ _;clear hHeld;exact hQ _ _ _ _ _ _ _ _ _ _ _ _ _ _ gb g1 g2 g3 g4 ⟨HBS.out,HR.out,HV.out,HR1.out,HR2.out,HR3.out,HR4.out,HFg3.out,HFg4.out,HNE.out⟩
    ·
     skip;have HBS0:=HBS;have HRL:=HR.out.lt;have hb:=b1' wn (.cells #[.slice none 0 0,.slice none 0 0,.slice none 0 0,.slice none 0 0] 104);have HBS:=qz (HBS0.out.step hb);have HR1:=qz (HR1.out.step hb);have HR2:=qz (HR2.out.below hb HR2.out.lt);have HR3:=qz (HR3.out.step hb);have HR:=qz (HR.out.below hb HR.out.lt)
     have HV:=qz (Blk.new wn 104 #[.slice none 0 0,.slice none 0 0,.slice none 0 0,.slice none 0 0]);have HFgb:Hid (w.heap.size + 2<=wn.heap.size):=qz (by have:=HRL; omega);clear hb HBS0;obtain ⟨gb,hgb⟩:=exq wn.heap.size;obtain ⟨wm,hwm⟩:=exq (wn.alloc (.cells #[.slice none 0 0,.slice none 0 0,.slice none 0 0,.slice none 0 0] 104))
     rw [hwm] at HBS HR HV HR1 HR2 HR3;rw [hgb] at HV HFgb;go_simp;clear hgb hwm;obtain ⟨wn,hwn⟩:∃ W,W = wm:=⟨_,rfl⟩
     subst hwn;refine koq hK HBS.out (fun hHeld=>?_);clear hK K;refine rdy 11 (fun K hK => ?_);have HSW:Hid (w.heap.size + 2<=wn.heap.size):=qz (by have:=HR.out.lt; omega);have HBS0:=HBS;go_simp;refine (zeros18 n1 hm1 _).mono ?_;have hlt3:=HR3.out.lt;rintro e wn ⟨g4,rfl,hg,hr,hb⟩;have HBS:=qz (HBS0.out.step hb);have HR1:=qz (HR1.out.step hb)
     have HR2:=qz (HR2.out.below hb HR2.out.lt);have HR3:=qz (HR3.out.step hb);have HV:=qz (HV.out.below hb HV.out.lt);have HR:=qz (HR.out.below hb HR.out.lt);have HR4:=qz hr;have HFg4:Hid (w.heap.size + 2<=g4):=qz (by have:=HSW.out; omega);have HNE:Hid (g3≠g4):=qz (by have:=hlt3; omega);clear hb HBS0 hr hg hlt3;refine koq hK HBS.out (fun hHeld=>?_)
     clear hK K;refine tkpq hP 12 ?_;refine rdy 14 (fun K hK => ?_);obtain ⟨x0,x1,x2,x3⟩:=ce4 HV.out;have xf0:=HV.out.frozen 0;have xf1:=HV.out.frozen 1;have xf2:=HV.out.frozen 2;have xf3:=HV.out.frozen 3;have HBS0:=HBS;go_simp
     obtain ⟨wm,hwm⟩:=exq ((((wn.setCell ⟨gb,0,none⟩ (.slice (some ⟨g1,0,none⟩) n1 n1)).setCell ⟨gb,1,none⟩ (.slice (some ⟨g2,0,none⟩) n0 n0)).setCell ⟨gb,2,none⟩ (.slice (some ⟨g3,0,none⟩) n0 n0)).setCell ⟨gb,3,none⟩ (.slice (some ⟨g4,0,none⟩) n1 n1));have hn1:=bb17_blk HR1.out HV.out (by decide);have hn2:=ib17_blk HR2.out HV.out (by decide)
     have hn3:=qr18_blk HR3.out HV.out (by decide);have hn4:=qr18_blk HR4.out HV.out (by decide);have HR1:=qz (show Bb13 wm g1 n1 _ by rw [<- hwm]; exact (((HR1.out.far17 hn1 _).far17 hn1 _).far17 hn1 _).far17 hn1 _);have HR2:=qz (show Ib13 wm g2 n0 _ by rw [<- hwm]; exact (((HR2.out.far hn2 _).far hn2 _).far hn2 _).far hn2 _)
     have HR3:=qz (show Qr18 wm g3 n0 _ by rw [<- hwm]; exact HR3.out.put4b hn3 HV.out _ _ _ _);have HR4:=qz (show Qr18 wm g4 n1 _ by rw [<- hwm]; exact HR4.out.put4b hn4 HV.out _ _ _ _);have hgb1:w.heap.size + 1≠gb:=by have:=HFgb.out; omega
     have HR:=qz (show Blk wm (w.heap.size + 1) 104 _ by rw [<- hwm]; exact (((HR.out.far hgb1 _).far hgb1 _).far hgb1 _).far hgb1 _);have hgb2:w.heap.size + 1<=gb:=by have:=HFgb.out; omega
     have HBS:=qz (HBS0.out.low (W':=wm) (by rw [<- hwm]; exact ((((Below.refl _ _).setCell hgb2 _).setCell hgb2 _).setCell hgb2 _).setCell hgb2 _))
     have HV:=qz (show Blk wm gb 104 #[.slice (some ⟨g1,0,none⟩) n1 n1,.slice (some ⟨g2,0,none⟩) n0 n0,.slice (some ⟨g3,0,none⟩) n0 n0,.slice (some ⟨g4,0,none⟩) n1 n1] by rw [<- hwm]; exact put4b18_blk HV.out _ _ _ _);rw [hwm];clear hwm x0 x1 x2 x3 xf0 xf1 xf2 xf3 hn1 hn2 hn3 hn4 hgb1 hgb2 HBS0;obtain ⟨wn,hwn⟩:∃ W,W = wm:=⟨_,rfl⟩
     subst hwn;refine koq hK HBS.out (fun hHeld=>?_);clear hK K;refine wpAnyH_done (by kernel_rfl) ?_ _;clear hHeld;exact hQ _ _ _ _ _ _ _ _ _ _ _ _ _ _ gb g1 g2 g3 g4 ⟨HBS.out,HR.out,HV.out,HR1.out,HR2.out,HR3.out,HR4.out,HFg3.out,HFg4.out,HNE.out⟩
   ·
    skip;have HBS0:=HBS;have HRL:=HR.out.lt;have hb:=b1' wn (.cells #[.slice none 0 0,.slice none 0 0,.slice none 0 0,.slice none 0 0] 104);have HBS:=qz (HBS0.out.step hb);have HR1:=qz (HR1.out.step hb);have HR2:=qz (HR2.out.below hb HR2.out.lt);have HR:=qz (HR.out.below hb HR.out.lt)
    have HV:=qz (Blk.new wn 104 #[.slice none 0 0,.slice none 0 0,.slice none 0 0,.slice none 0 0]);have HFgb:Hid (w.heap.size + 2<=wn.heap.size):=qz (by have:=HRL; omega);clear hb HBS0;obtain ⟨gb,hgb⟩:=exq wn.heap.size;obtain ⟨wm,hwm⟩:=exq (wn.alloc (.cells #[.slice none 0 0,.slice none 0 0,.slice none 0 0,.slice none 0 0] 104))
    rw [hwm] at HBS HR HV HR1 HR2;rw [hgb] at HV HFgb;go_simp;clear hgb hwm;obtain ⟨wn,hwn⟩:∃ W,W = wm:=⟨_,rfl⟩
    subst hwn;refine koq hK HBS.out (fun hHeld=>?_);clear hK K;refine rdy 7 (fun K hK => ?_);have HSW:Hid (w.heap.size + 2<=wn.heap.size):=qz (by have:=HR.out.lt; omega);have HBS0:=HBS;go_simp;refine (zeros18 n0 hm0 _).mono ?_;rintro e wn ⟨g3,rfl,hg,hr,hb⟩;have HBS:=qz (HBS0.out.step hb);have HR1:=qz (HR1.out.step hb)
    have HR2:=qz (HR2.out.below hb HR2.out.lt);have HV:=qz (HV.out.below hb HV.out.lt);have HR:=qz (HR.out.below hb HR.out.lt);have HR3:=qz hr;have HFg3:Hid (w.heap.size + 2<=g3):=qz (by have:=HSW.out; omega);clear hb HBS0 hr hg;refine koq hK HBS.out (fun hHeld=>?_);clear hK K;refine rdy 11 (fun K hK => ?_)
    have HSW:Hid (w.heap.size + 2<=wn.heap.size):=qz (by have:=HR.out.lt; omega);have HBS0:=HBS;go_simp;refine (zeros18 n1 hm1 _).mono ?_;have hlt3:=HR3.out.lt;rintro e wn ⟨g4,rfl,hg,hr,hb⟩;have HBS:=qz (HBS0.out.step hb);have HR1:=qz (HR1.out.step hb);have HR2:=qz (HR2.out.below hb HR2.out.lt);have HR3:=qz (HR3.out.step hb)
    have HV:=qz (HV.out.below hb HV.out.lt);have HR:=qz (HR.out.below hb HR.out.lt);have HR4:=qz hr;have HFg4:Hid (w.heap.size + 2<=g4):=qz (by have:=HSW.out; omega);have HNE:Hid (g3≠g4):=qz (by have:=hlt3; omega);clear hb HBS0 hr hg hlt3;refine koq hK HBS.out (fun hHeld=>?_);clear hK K;refine tkpq hP 12 ?_;refine rdy 14 (fun K hK => ?_)
    obtain ⟨x0,x1,x2,x3⟩:=ce4 HV.out;have xf0:=HV.out.frozen 0;have xf1:=HV.out.frozen 1;have xf2:=HV.out.frozen 2;have xf3:=HV.out.frozen 3;have HBS0:=HBS;go_simp
    obtain ⟨wm,hwm⟩:=exq ((((wn.setCell ⟨gb,0,none⟩ (.slice (some ⟨g1,0,none⟩) n1 n1)).setCell ⟨gb,1,none⟩ (.slice (some ⟨g2,0,none⟩) n0 n0)).setCell ⟨gb,2,none⟩ (.slice (some ⟨g3,0,none⟩) n0 n0)).setCell ⟨gb,3,none⟩ (.slice (some ⟨g4,0,none⟩) n1 n1));have hn1:=bb17_blk HR1.out HV.out (by decide);have hn2:=ib17_blk HR2.out HV.out (by decide)
    have hn3:=qr18_blk HR3.out HV.out (by decide);have hn4:=qr18_blk HR4.out HV.out (by decide);have HR1:=qz (show Bb13 wm g1 n1 _ by rw [<- hwm]; exact (((HR1.out.far17 hn1 _).far17 hn1 _).far17 hn1 _).far17 hn1 _);have HR2:=qz (show Ib13 wm g2 n0 _ by rw [<- hwm]; exact (((HR2.out.far hn2 _).far hn2 _).far hn2 _).far hn2 _)
    have HR3:=qz (show Qr18 wm g3 n0 _ by rw [<- hwm]; exact HR3.out.put4b hn3 HV.out _ _ _ _);have HR4:=qz (show Qr18 wm g4 n1 _ by rw [<- hwm]; exact HR4.out.put4b hn4 HV.out _ _ _ _);have hgb1:w.heap.size + 1≠gb:=by have:=HFgb.out; omega
    have HR:=qz (show Blk wm (w.heap.size + 1) 104 _ by rw [<- hwm]; exact (((HR.out.far hgb1 _).far hgb1 _).far hgb1 _).far hgb1 _);have hgb2:w.heap.size + 1<=gb:=by have:=HFgb.out; omega
    have HBS:=qz (HBS0.out.low (W':=wm) (by rw [<- hwm]; exact ((((Below.refl _ _).setCell hgb2 _).setCell hgb2 _).setCell hgb2 _).setCell hgb2 _))
    have HV:=qz (show Blk wm gb 104 #[.slice (some ⟨g1,0,none⟩) n1 n1,.slice (some ⟨g2,0,none⟩) n0 n0,.slice (some ⟨g3,0,none⟩) n0 n0,.slice (some ⟨g4,0,none⟩) n1 n1] by rw [<- hwm]; exact put4b18_blk HV.out _ _ _ _);rw [hwm];clear hwm x0 x1 x2 x3 xf0 xf1 xf2 xf3 hn1 hn2 hn3 hn4 hgb1 hgb2 HBS0;obtain ⟨wn,hwn⟩:∃ W,W = wm:=⟨_,rfl⟩
    subst hwn;refine koq hK HBS.out (fun hHeld=>?_);clear hK K;refine wpAnyH_done (by kernel_rfl) ?_ _;clear hHeld;exact hQ _ _ _ _ _ _ _ _ _ _ _ _ _ _ gb g1 g2 g3 g4 ⟨HBS.out,HR.out,HV.out,HR1.out,HR2.out,HR3.out,HR4.out,HFg3.out,HFg4.out,HNE.out⟩
  ·
   skip;have HBS0:=HBS;have HRL:=HR.out.lt;have hb:=b1' wn (.cells #[.slice none 0 0,.slice none 0 0,.slice none 0 0,.slice none 0 0] 104);have HBS:=qz (HBS0.out.step hb);have HR1:=qz (HR1.out.step hb);have HR:=qz (HR.out.below hb HR.out.lt);have HV:=qz (Blk.new wn 104 #[.slice none 0 0,.slice none 0 0,.slice none 0 0,.slice none 0 0])
   have HFgb:Hid (w.heap.size + 2<=wn.heap.size):=qz (by have:=HRL; omega);clear hb HBS0;obtain ⟨gb,hgb⟩:=exq wn.heap.size;obtain ⟨wm,hwm⟩:=exq (wn.alloc (.cells #[.slice none 0 0,.slice none 0 0,.slice none 0 0,.slice none 0 0] 104));rw [hwm] at HBS HR HV HR1;rw [hgb] at HV HFgb;go_simp;clear hgb hwm;obtain ⟨wn,hwn⟩:∃ W,W = wm:=⟨_,rfl⟩
   subst hwn;refine koq hK HBS.out (fun hHeld=>?_);clear hK K;refine rdy 3 (fun K hK => ?_);have HBS0:=HBS;go_simp;refine (HAM.out _ HBS0.out.b).mono ?_;rintro e wn ⟨g2,rfl,_,hr,hb⟩;have HBS:=qz (HBS0.out.step hb);have HR1:=qz (HR1.out.step hb);have HV:=qz (HV.out.below hb HV.out.lt);have HR:=qz (HR.out.below hb HR.out.lt);rw [HL0.out] at hr ⊢
   have HR2:=qz hr;clear hb HBS0 hr;refine koq hK HBS.out (fun hHeld=>?_);clear hK K;refine rdy 7 (fun K hK => ?_);have HSW:Hid (w.heap.size + 2<=wn.heap.size):=qz (by have:=HR.out.lt; omega);have HBS0:=HBS;go_simp;refine (zeros18 n0 hm0 _).mono ?_;rintro e wn ⟨g3,rfl,hg,hr,hb⟩;have HBS:=qz (HBS0.out.step hb);have HR1:=qz (HR1.out.step hb)
   have HR2:=qz (HR2.out.below hb HR2.out.lt);have HV:=qz (HV.out.below hb HV.out.lt);have HR:=qz (HR.out.below hb HR.out.lt);have HR3:=qz hr;have HFg3:Hid (w.heap.size + 2<=g3):=qz (by have:=HSW.out; omega);clear hb HBS0 hr hg;refine koq hK HBS.out (fun hHeld=>?_);clear hK K;refine rdy 11 (fun K hK => ?_)
   have HSW:Hid (w.heap.size + 2<=wn.heap.size):=qz (by have:=HR.out.lt; omega);have HBS0:=HBS;go_simp;refine (zeros18 n1 hm1 _).mono ?_;have hlt3:=HR3.out.lt;rintro e wn ⟨g4,rfl,hg,hr,hb⟩;have HBS:=qz (HBS0.out.step hb);have HR1:=qz (HR1.out.step hb);have HR2:=qz (HR2.out.below hb HR2.out.lt);have HR3:=qz (HR3.out.step hb)
   have HV:=qz (HV.out.below hb HV.out.lt);have HR:=qz (HR.out.below hb HR.out.lt);have HR4:=qz hr;have HFg4:Hid (w.heap.size + 2<=g4):=qz (by have:=HSW.out; omega);have HNE:Hid (g3≠g4):=qz (by have:=hlt3; omega);clear hb HBS0 hr hg hlt3;refine koq hK HBS.out (fun hHeld=>?_);clear hK K;refine tkpq hP 12 ?_;refine rdy 14 (fun K hK => ?_)
   obtain ⟨x0,x1,x2,x3⟩:=ce4 HV.out;have xf0:=HV.out.frozen 0;have xf1:=HV.out.frozen 1;have xf2:=HV.out.frozen 2;have xf3:=HV.out.frozen 3;have HBS0:=HBS;go_simp
   obtain ⟨wm,hwm⟩:=exq ((((wn.setCell ⟨gb,0,none⟩ (.slice (some ⟨g1,0,none⟩) n1 n1)).setCell ⟨gb,1,none⟩ (.slice (some ⟨g2,0,none⟩) n0 n0)).setCell ⟨gb,2,none⟩ (.slice (some ⟨g3,0,none⟩) n0 n0)).setCell ⟨gb,3,none⟩ (.slice (some ⟨g4,0,none⟩) n1 n1));have hn1:=bb17_blk HR1.out HV.out (by decide);have hn2:=ib17_blk HR2.out HV.out (by decide)
   have hn3:=qr18_blk HR3.out HV.out (by decide);have hn4:=qr18_blk HR4.out HV.out (by decide);have HR1:=qz (show Bb13 wm g1 n1 _ by rw [<- hwm]; exact (((HR1.out.far17 hn1 _).far17 hn1 _).far17 hn1 _).far17 hn1 _);have HR2:=qz (show Ib13 wm g2 n0 _ by rw [<- hwm]; exact (((HR2.out.far hn2 _).far hn2 _).far hn2 _).far hn2 _)
   have HR3:=qz (show Qr18 wm g3 n0 _ by rw [<- hwm]; exact HR3.out.put4b hn3 HV.out _ _ _ _);have HR4:=qz (show Qr18 wm g4 n1 _ by rw [<- hwm]; exact HR4.out.put4b hn4 HV.out _ _ _ _);have hgb1:w.heap.size + 1≠gb:=by have:=HFgb.out; omega
   have HR:=qz (show Blk wm (w.heap.size + 1) 104 _ by rw [<- hwm]; exact (((HR.out.far hgb1 _).far hgb1 _).far hgb1 _).far hgb1 _);have hgb2:w.heap.size + 1<=gb:=by have:=HFgb.out; omega
   have HBS:=qz (HBS0.out.low (W':=wm) (by rw [<- hwm]; exact ((((Below.refl _ _).setCell hgb2 _).setCell hgb2 _).setCell hgb2 _).setCell hgb2 _));have HV:=qz (show Blk wm gb 104 #[.slice (some ⟨g1,0,none⟩) n1 n1,.slice (some ⟨g2,0,none⟩) n0 n0,.slice (some ⟨g3,0,none⟩) n0 n0,.slice (some ⟨g4,0,none⟩) n1 n1] by rw [<- hwm]; exact put4b18_blk HV.out _ _ _ _)
   rw [hwm];clear hwm x0 x1 x2 x3 xf0 xf1 xf2 xf3 hn1 hn2 hn3 hn4 hgb1 hgb2 HBS0;obtain ⟨wn,hwn⟩:∃ W,W = wm:=⟨_,rfl⟩
   subst hwn;refine koq hK HBS.out (fun hHeld=>?_);clear hK K;refine wpAnyH_done (by kernel_rfl) ?_ _;clear hHeld;exact hQ _ _ _ _ _ _ _ _ _ _ _ _ _ _ gb g1 g2 g3 g4 ⟨HBS.out,HR.out,HV.out,HR1.out,HR2.out,HR3.out,HR4.out,HFg3.out,HFg4.out,HNE.out⟩
 ·
  skip;have HBS0:=HBS;have HRL:=HR.out.lt;have hb:=b1' wn (.cells #[.slice none 0 0,.slice none 0 0,.slice none 0 0,.slice none 0 0] 104);have HBS:=qz (HBS0.out.step hb);have HR:=qz (HR.out.below hb HR.out.lt);have HV:=qz (Blk.new wn 104 #[.slice none 0 0,.slice none 0 0,.slice none 0 0,.slice none 0 0])
  have HFgb:Hid (w.heap.size + 2<=wn.heap.size):=qz (by have:=HRL; omega);clear hb HBS0;obtain ⟨gb,hgb⟩:=exq wn.heap.size;obtain ⟨wm,hwm⟩:=exq (wn.alloc (.cells #[.slice none 0 0,.slice none 0 0,.slice none 0 0,.slice none 0 0] 104));rw [hwm] at HBS HR HV;rw [hgb] at HV HFgb;go_simp;clear hgb hwm;obtain ⟨wn,hwn⟩:∃ W,W = wm:=⟨_,rfl⟩
  subst hwn;refine koq hK HBS.out (fun hHeld=>?_);clear hK K;refine rdy 1 (fun K hK => ?_);have HBS0:=HBS;go_simp;refine (HTK.out _ HBS0.out.b).mono ?_;rintro e wn ⟨g1,rfl,_,hr,hb⟩;have HBS:=qz (HBS0.out.step hb);have HV:=qz (HV.out.below hb HV.out.lt);have HR:=qz (HR.out.below hb HR.out.lt);rw [HL1.out] at hr ⊢;have HR1:=qz hr;clear hb HBS0 hr
  refine koq hK HBS.out (fun hHeld=>?_);clear hK K;refine rdy 3 (fun K hK => ?_);have HBS0:=HBS;go_simp;refine (HAM.out _ HBS0.out.b).mono ?_;rintro e wn ⟨g2,rfl,_,hr,hb⟩;have HBS:=qz (HBS0.out.step hb);have HR1:=qz (HR1.out.step hb);have HV:=qz (HV.out.below hb HV.out.lt);have HR:=qz (HR.out.below hb HR.out.lt);rw [HL0.out] at hr ⊢;have HR2:=qz hr
  clear hb HBS0 hr;refine koq hK HBS.out (fun hHeld=>?_);clear hK K;refine rdy 7 (fun K hK => ?_);have HSW:Hid (w.heap.size + 2<=wn.heap.size):=qz (by have:=HR.out.lt; omega);have HBS0:=HBS;go_simp;refine (zeros18 n0 hm0 _).mono ?_;rintro e wn ⟨g3,rfl,hg,hr,hb⟩;have HBS:=qz (HBS0.out.step hb);have HR1:=qz (HR1.out.step hb)
  have HR2:=qz (HR2.out.below hb HR2.out.lt);have HV:=qz (HV.out.below hb HV.out.lt);have HR:=qz (HR.out.below hb HR.out.lt);have HR3:=qz hr;have HFg3:Hid (w.heap.size + 2<=g3):=qz (by have:=HSW.out; omega);clear hb HBS0 hr hg;refine koq hK HBS.out (fun hHeld=>?_);clear hK K;refine rdy 11 (fun K hK => ?_)
  have HSW:Hid (w.heap.size + 2<=wn.heap.size):=qz (by have:=HR.out.lt; omega);have HBS0:=HBS;go_simp;refine (zeros18 n1 hm1 _).mono ?_;have hlt3:=HR3.out.lt;rintro e wn ⟨g4,rfl,hg,hr,hb⟩;have HBS:=qz (HBS0.out.step hb);have HR1:=qz (HR1.out.step hb);have HR2:=qz (HR2.out.below hb HR2.out.lt);have HR3:=qz (HR3.out.step hb)
  have HV:=qz (HV.out.below hb HV.out.lt);have HR:=qz (HR.out.below hb HR.out.lt);have HR4:=qz hr;have HFg4:Hid (w.heap.size + 2<=g4):=qz (by have:=HSW.out; omega);have HNE:Hid (g3≠g4):=qz (by have:=hlt3; omega);clear hb HBS0 hr hg hlt3;refine koq hK HBS.out (fun hHeld=>?_);clear hK K;refine tkpq hP 12 ?_;refine rdy 14 (fun K hK => ?_)
  obtain ⟨x0,x1,x2,x3⟩:=ce4 HV.out;have xf0:=HV.out.frozen 0;have xf1:=HV.out.frozen 1;have xf2:=HV.out.frozen 2;have xf3:=HV.out.frozen 3;have HBS0:=HBS;go_simp
  obtain ⟨wm,hwm⟩:=exq ((((wn.setCell ⟨gb,0,none⟩ (.slice (some ⟨g1,0,none⟩) n1 n1)).setCell ⟨gb,1,none⟩ (.slice (some ⟨g2,0,none⟩) n0 n0)).setCell ⟨gb,2,none⟩ (.slice (some ⟨g3,0,none⟩) n0 n0)).setCell ⟨gb,3,none⟩ (.slice (some ⟨g4,0,none⟩) n1 n1));have hn1:=bb17_blk HR1.out HV.out (by decide);have hn2:=ib17_blk HR2.out HV.out (by decide)
  have hn3:=qr18_blk HR3.out HV.out (by decide);have hn4:=qr18_blk HR4.out HV.out (by decide);have HR1:=qz (show Bb13 wm g1 n1 _ by rw [<- hwm]; exact (((HR1.out.far17 hn1 _).far17 hn1 _).far17 hn1 _).far17 hn1 _);have HR2:=qz (show Ib13 wm g2 n0 _ by rw [<- hwm]; exact (((HR2.out.far hn2 _).far hn2 _).far hn2 _).far hn2 _)
  have HR3:=qz (show Qr18 wm g3 n0 _ by rw [<- hwm]; exact HR3.out.put4b hn3 HV.out _ _ _ _);have HR4:=qz (show Qr18 wm g4 n1 _ by rw [<- hwm]; exact HR4.out.put4b hn4 HV.out _ _ _ _);have hgb1:w.heap.size + 1≠gb:=by have:=HFgb.out; omega
  have HR:=qz (show Blk wm (w.heap.size + 1) 104 _ by rw [<- hwm]; exact (((HR.out.far hgb1 _).far hgb1 _).far hgb1 _).far hgb1 _);have hgb2:w.heap.size + 1<=gb:=by have:=HFgb.out; omega
  have HBS:=qz (HBS0.out.low (W':=wm) (by rw [<- hwm]; exact ((((Below.refl _ _).setCell hgb2 _).setCell hgb2 _).setCell hgb2 _).setCell hgb2 _));have HV:=qz (show Blk wm gb 104 #[.slice (some ⟨g1,0,none⟩) n1 n1,.slice (some ⟨g2,0,none⟩) n0 n0,.slice (some ⟨g3,0,none⟩) n0 n0,.slice (some ⟨g4,0,none⟩) n1 n1] by rw [<- hwm]; exact put4b18_blk HV.out _ _ _ _)
  rw [hwm];clear hwm x0 x1 x2 x3 xf0 xf1 xf2 xf3 hn1 hn2 hn3 hn4 hgb1 hgb2 HBS0;obtain ⟨wn,hwn⟩:∃ W,W = wm:=⟨_,rfl⟩
  subst hwn;refine koq hK HBS.out (fun hHeld=>?_);clear hK K;refine wpAnyH_done (by kernel_rfl) ?_ _;clear hHeld;exact hQ _ _ _ _ _ _ _ _ _ _ _ _ _ _ gb g1 g2 g3 g4 ⟨HBS.out,HR.out,HV.out,HR1.out,HR2.out,HR3.out,HR4.out,HFg3.out,HFg4.out,HNE.out⟩
end
theorem reckoned18 (v:Value) (S:Sv14) (wC wT:Nat->Rat) (w:World) (h:St14 w v S) (hf:Fine14 S) (hw:Wo18 S wC wT) :
  Calls Tryz.prog 73 #[v] w (RetRe18 w S wC wT):=by
 obtain ⟨A0,A1,A2,A3,A4,n0,n1,n2,n3,n4,c0,c1,c2,c3,c4,sq,rfl,hs⟩:=h;obtain ⟨os,hd⟩:=done13_ex (Ca15 S) S.C.length;have hl:os.length = S.C.length:=Done13.full (in13_cut _ _) hd (free15_ring.1 hf.2.2.2.2.2.2.2.2.1)
 have HP:Hid (RetRe18 w S wC wT = fun e w' => ∃ g1 g2 g3 g4,e = .returned (.agg #[.slice (some ⟨g1,0,none⟩) n1 n1,.slice (some ⟨g2,0,none⟩) n0 n0,.slice (some ⟨g3,0,none⟩) n0 n0,.slice (some ⟨g4,0,none⟩) n1 n1])/\w.heap.size<=g3/\w.heap.size<=g4/\Qr18 w' g3 n0 (fun c => qr18 (wC c))/\Qr18 w' g4 n1 (fun k => qr18 (wT k))/\Below w.heap.size w w'):=qz (by unfold RetRe18; rw [hs.l0,hs.l1])
 obtain ⟨hfc,hft,_⟩:=hw.fits hf;have hx0:By16 w S A0 A1 A2 A3 A4 n0 n1 n2 n3 n4 c0 c1 c2 c3 c4 sq _:=⟨Bx14.new hs,hs⟩
 have hb2:=b1' (w.alloc (.cells #[.slice A0 n0 c0,.slice A1 n1 c1,.slice A2 n2 c2,.slice A3 n3 c3,.slice A4 n4 c4,.int .i64 sq] 28)) (.cells #[.slice none 0 0,.slice none 0 0,.slice none 0 0,.slice none 0 0] 104)
 have ho2:=Blk.new (w.alloc (.cells #[.slice A0 n0 c0,.slice A1 n1 c1,.slice A2 n2 c2,.slice A3 n3 c3,.slice A4 n4 c4,.int .i64 sq] 28)) 104 #[.slice none 0 0,.slice none 0 0,.slice none 0 0,.slice none 0 0]
 rw [show (w.alloc (.cells #[.slice A0 n0 c0,.slice A1 n1 c1,.slice A2 n2 c2,.slice A3 n3 c3,.slice A4 n4 c4,.int .i64 sq] 28)).heap.size = w.heap.size + 1 by simp] at ho2;have hx2:=hx0.step hb2
 obtain ⟨W2,hW2⟩:=exq ((w.alloc (.cells #[.slice A0 n0 c0,.slice A1 n1 c1,.slice A2 n2 c2,.slice A3 n3 c3,.slice A4 n4 c4,.int .i64 sq] 28)).alloc (.cells #[.slice none 0 0,.slice none 0 0,.slice none 0 0,.slice none 0 0] 104));rw [hW2] at ho2 hx2;have HX2:=qz hx2;have HO2:=qz ho2
 have HOR:=qz (fun W (h:Bx14 w S A0 A1 A2 A3 A4 n0 n1 n2 n3 n4 c0 c1 c2 c3 c4 sq W) => order17 _ S os W h.st hd hl);obtain ⟨ns,hns⟩:=exq (ord15 S os);obtain ⟨m,hm⟩:=exq ns.length;have HM:=qz hm;have HNS:=qz hns;have HF:=qz hf;have HWO:=qz hw;have HD:=qz hd.1;have HL:=qz hl;have HFC:Hid (∀ c,Sm18 (qr18 (wC c))):=qz hfc
 have HFT:Hid (∀ c,Sm18 (qr18 (wT c))):=qz hft
 have hmn:m<=1000:=by
  have h1:=List.length_filter_le (fun (x:Nat) => us14 usC S.C (x:Int)) os;have h2:=hs.l0;have h3:=hs.m0;rw [<- hm,<- hns];unfold ord15;omega
 rw [hns] at HOR;have HSS:=qz hs;clear hs hx0 hb2 hx2 ho2 hd hl hf hw hfc hft hns hm;go_enter Tryz.func73,Tryz.ntmps73;go_upto_region 1 with (fail)
 try rw [hW2]
 refine laid18 HF.out HX2.out HO2.out (fun _ _ _ _ _ h => h) (fun x6 x7 x8 x9 x10 x11 x12 x13 x14 x15 x16 x17 x18 wn gb g1 g2 g3 g4 hre => ?_);have HRE:=qz hre;obtain ⟨x0,x1,x2,x3,x4,x5⟩:=ce6 hre.b.b.x;clear hre HX2 HO2 hW2;go_wp2_with fail;refine (HOR.out _ HRE.out.b.b).mono ?_;rintro e w3 ⟨A,ca,rfl,hr3,hfa3,hb3⟩;rw [HM.out]
 have HA3:Hid (Fa17 wn.heap.size A ns/\g3 < wn.heap.size/\g4 < wn.heap.size):=qz ⟨hfa3,HRE.out.r3.lt,HRE.out.r4.lt⟩;have HW3:=qz (HRE.out.step hb3);have HR3:=qz hr3;clear HOR hr3 hfa3 hb3 HRE x0 x1 x2 x3 x4 x5;go_wp2_with fail
 go_loopw [22] (fun i wr => ∃ (d:Nat) (qc qt:Nat->Nat × Nat),i = .int .i64 (d:Int)/\d<=m/\Hid (Lw18 S wC wT ns d qc qt)/\Hid (Re18 w S A0 A1 A2 A3 A4 n0 n1 n2 n3 n4 c0 c1 c2 c3 c4 sq gb g1 g2 g3 g4 qc qt wr)/\Hid (Rd wr wr.heap.size A ns)) (fun i _ => m - (intOf i).toNat)
 case atStart => exact ⟨0,_,_,rfl,by omega,qz (lw18_start S wC wT ns),HW3,HR3⟩
 case round =>
  clear HW3 HR3;obtain ⟨d,qc,qt,rfl,hd,HLW,HW,HR⟩:=hrel;by_cases hdm:d < m
  ·
   have hdl:d < ns.length:=by rw [HM.out]; exact hdm
   obtain ⟨ga,oa,hA,hab,q0⟩:=HR.out.at_ hdl;obtain ⟨c,hc⟩:=exq (nth ns d);rw [hc] at q0;have hdo:d < (ord15 S os).length:=by rw [HNS.out]; exact hdl
   have hco:nth (ord15 S os) d = c:=by rw [HNS.out]; exact hc
   have hlw:=HLW.out;rw [<- HNS.out] at hlw;have hux:us14 usC S.C (c:Int) = true:=by rw [<- hco]; exact ord15_used hdo
   have hnext:=hlw.next HF.out.2.2.2.2.1 hdo hco;rw [HNS.out] at hnext
   have hadd:=add18 w S A0 A1 A2 A3 A4 n0 n1 n2 n3 n4 c0 c1 c2 c3 c4 sq g1 g2 g3 g4 c qc qt wC wT wr HSS.out HF.out HWO.out HW.out.b.b.b HW.out.r1 HW.out.r2 HW.out.r3 HW.out.r4 (by have:=HW.out.f3; omega) (by have:=HW.out.f4; omega) HW.out.ne hux (hlw.sm HFC.out HFT.out).2 (fun j hj => hlw.pre HWO.out HF.out.2.2.2.2.1 HD.out hdo hco hj);have HAD:=qz hadd
   have HNX:=qz hnext;have i0:(0:Int)<=(d:Int):=by omega
   have i1:(d:Int) < (m:Int):=by omega
   obtain ⟨y0,y1,y2,y3⟩:=ce4 HW.out.v;obtain ⟨z0,z1,z2,z3,z4,z5⟩:=ce6 HW.out.b.b.x;clear hab hc hdo hco hlw hux hnext hadd HLW;subst hA;go_wp2_with fail;refine HAD.out.mono ?_;rintro e w4 ⟨rfl,hk4,h3,h4⟩;have HT:=qz (HW.out.turn hk4 h3 h4)
   have HRN:=qz (bk17_rd hk4 HR.out (fun q hx hq => by
    obtain ⟨b,o,e1,e2⟩:=HA3.out.1 hx;rw [e1] at hq;injection hq with hq
    rw [<- hq];have h5:=HA3.out.2
    exact ⟨by show b≠g3; omega,by show some b≠some g4; simp; omega⟩))
   clear HAD hk4 h3 h4 HW HR y0 y1 y2 y3 z0 z1 z2 z3 z4 z5 q0;go_wp2_with fail;go_roundw
   case rel => exact ⟨d + 1,_,_,by go_num,by omega,HNX,HT,HRN⟩
   case measure => simp [intOf]; omega
  ·
   obtain rfl:d = m:=by omega
   have i1:¬ (d:Int) < (d:Int):=by omega
   have hlw:=HLW.out;rw [<- HNS.out,show d = (ord15 S os).length by rw [HNS.out,HM.out]] at hlw;obtain ⟨he1,he2⟩:=hlw.end_ HWO.out HF.out HD.out HL.out;obtain rfl:qc = fun c => qr18 (wC c):=funext he1
   obtain rfl:qt = fun c => qr18 (wT c):=funext he2
   obtain ⟨v0,v1,v2,v3⟩:=ce4 HW.out.v;obtain ⟨p0,p1,p2,p3⟩:=ce4 HW.out.o;have u0:=HW.out.o.frozen 0;have u1:=HW.out.o.frozen 1;have u2:=HW.out.o.frozen 2;have u3:=HW.out.o.frozen 3;have hf3:=HW.out.f3;have hf4:=HW.out.f4;clear hlw he1 he2 HLW HR;go_wp2_with fail
   have hp:=put4b18_blk HW.out.o (.slice (some ⟨g1,0,none⟩) n1 n1) (.slice (some ⟨g2,0,none⟩) n0 n0) (.slice (some ⟨g3,0,none⟩) n0 n0) (.slice (some ⟨g4,0,none⟩) n1 n1);unfold put4b18 at hp;rw [HP.out];have hle:w.heap.size<=w.heap.size + 1:=by omega
   exact bodyPost_ret (v:=.agg #[.slice (some ⟨g1,0,none⟩) n1 n1,.slice (some ⟨g2,0,none⟩) n0 n0,.slice (some ⟨g3,0,none⟩) n0 n0,.slice (some ⟨g4,0,none⟩) n1 n1]) (by simp [results,Tryz.results73,go_sem,hp.cell 0,hp.cell 1,hp.cell 2,hp.cell 3]) rfl
    ⟨g1,g2,g3,g4,rfl,by omega,by omega,HW.out.r3.put4b (by omega) HW.out.o _ _ _ _,HW.out.r4.put4b (by omega) HW.out.o _ _ _ _,(((HW.out.b.b.b.setCell (p:=⟨w.heap.size + 1,0,none⟩) hle _).setCell (p:=⟨w.heap.size + 1,1,none⟩) hle _).setCell (p:=⟨w.heap.size + 1,2,none⟩) hle _).setCell (p:=⟨w.heap.size + 1,3,none⟩) hle _⟩
end
end Go.Proofs.YtkdmnlihpebbkaaGreat
