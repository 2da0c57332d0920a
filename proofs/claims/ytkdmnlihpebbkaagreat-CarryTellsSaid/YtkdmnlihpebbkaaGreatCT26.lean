import Derived.Test.YtkdmnlihpebbkaaGreatCT25
set_option linter.all false
set_option maxHeartbeats 16000000
namespace Go.Proofs.YtkdmnlihpebbkaaGreat
section
open Go.RowKit
set_option maxRecDepth 100000
structure Tr18 (w:World) (S:Sv14) (A0 A1 A2 A3 A4:Option Addr) (n0 n1 n2 n3 n4 c0 c1 c2 c3 c4:Nat) (sq:Int) (gb go g1 g2 g3 g4:Nat) (q qt:Nat->Nat × Nat) (W:World):Prop where
 b:By16 w S A0 A1 A2 A3 A4 n0 n1 n2 n3 n4 c0 c1 c2 c3 c4 sq W
 v:Blk W gb 104 #[.slice (some ⟨g1,0,none⟩) n1 n1,.slice (some ⟨g2,0,none⟩) n0 n0,.slice (some ⟨g3,0,none⟩) n0 n0,.slice (some ⟨g4,0,none⟩) n1 n1]
 r4:Qr18 W g4 n1 qt
 r:Qr18 W go n2 q
 fo:w.heap.size + 1<=go
 ne:g4≠go
theorem Tr18.step {w:World} {S:Sv14} {A0 A1 A2 A3 A4:Option Addr} {n0 n1 n2 n3 n4 c0 c1 c2 c3 c4:Nat} {sq:Int} {gb go g1 g2 g3 g4:Nat} {q qt:Nat->Nat × Nat} {W W':World} (h:Tr18 w S A0 A1 A2 A3 A4 n0 n1 n2 n3 n4 c0 c1 c2 c3 c4 sq gb go g1 g2 g3 g4 q qt W) (hb:Below W.heap.size W W'):Tr18 w S A0 A1 A2 A3 A4 n0 n1 n2 n3 n4 c0 c1 c2 c3 c4 sq gb go g1 g2 g3 g4 q qt W' :=
 ⟨h.b.step hb,h.v.below hb h.v.lt,h.r4.step hb,h.r.step hb,h.fo,h.ne⟩
theorem Tr18.put {w:World} {S:Sv14} {A0 A1 A2 A3 A4:Option Addr} {n0 n1 n2 n3 n4 c0 c1 c2 c3 c4:Nat} {sq:Int} {gb go g1 g2 g3 g4 j a b:Nat} {q qt:Nat->Nat × Nat} {W:World} (h:Tr18 w S A0 A1 A2 A3 A4 n0 n1 n2 n3 n4 c0 c1 c2 c3 c4 sq gb go g1 g2 g3 g4 q qt W) (hj:j < n2) {D1 D2:Option Addr} {k1 t1 k2 t2 L1 L2:Nat} (hx:Nv W L1 (.slice D1 k1 t1) a) (hy:Nv W L2 (.slice D2 k2 t2) b) :
  Tr18 w S A0 A1 A2 A3 A4 n0 n1 n2 n3 n4 c0 c1 c2 c3 c4 sq gb go g1 g2 g3 g4 (upd q j (a,b)) qt (putq18 W go j (.slice D1 k1 t1) (.slice D2 k2 t2)) :=
 ⟨h.b.low (below_putq18 (Below.refl _ _) h.fo _ _),h.v.putq18 (fun e => qr18_blk h.r h.v (by decide) e.symm) _ _,h.r4.far2 h.ne h.r hj _ _,h.r.put hj hx hy,h.fo,h.ne⟩
def Tx18 (w:World) (S:Sv14) (A0 A1 A2 A3 A4:Option Addr) (n0 n1 n2 n3 n4 c0 c1 c2 c3 c4:Nat) (sq:Int) (gb go g1 g2 g3 g4:Nat) (qt:Nat->Nat × Nat) (W:World):Prop:=∃ q,Tr18 w S A0 A1 A2 A3 A4 n0 n1 n2 n3 n4 c0 c1 c2 c3 c4 sq gb go g1 g2 g3 g4 q qt W
theorem Tx18.step {w:World} {S:Sv14} {A0 A1 A2 A3 A4:Option Addr} {n0 n1 n2 n3 n4 c0 c1 c2 c3 c4:Nat} {sq:Int} {gb go g1 g2 g3 g4:Nat} {qt:Nat->Nat × Nat} {W W':World} (h:Tx18 w S A0 A1 A2 A3 A4 n0 n1 n2 n3 n4 c0 c1 c2 c3 c4 sq gb go g1 g2 g3 g4 qt W) (hb:Below W.heap.size W W'):Tx18 w S A0 A1 A2 A3 A4 n0 n1 n2 n3 n4 c0 c1 c2 c3 c4 sq gb go g1 g2 g3 g4 qt W':=by
 obtain ⟨q,h⟩:=h;exact ⟨q,h.step hb⟩
theorem Tx18.b {w:World} {S:Sv14} {A0 A1 A2 A3 A4:Option Addr} {n0 n1 n2 n3 n4 c0 c1 c2 c3 c4:Nat} {sq:Int} {gb go g1 g2 g3 g4:Nat} {qt:Nat->Nat × Nat} {W:World} (h:Tx18 w S A0 A1 A2 A3 A4 n0 n1 n2 n3 n4 c0 c1 c2 c3 c4 sq gb go g1 g2 g3 g4 qt W):By16 w S A0 A1 A2 A3 A4 n0 n1 n2 n3 n4 c0 c1 c2 c3 c4 sq W:=by
 obtain ⟨_,h⟩:=h;exact h.b
theorem Tx18.v {w:World} {S:Sv14} {A0 A1 A2 A3 A4:Option Addr} {n0 n1 n2 n3 n4 c0 c1 c2 c3 c4:Nat} {sq:Int} {gb go g1 g2 g3 g4:Nat} {qt:Nat->Nat × Nat} {W:World} (h:Tx18 w S A0 A1 A2 A3 A4 n0 n1 n2 n3 n4 c0 c1 c2 c3 c4 sq gb go g1 g2 g3 g4 qt W):Blk W gb 104 #[.slice (some ⟨g1,0,none⟩) n1 n1,.slice (some ⟨g2,0,none⟩) n0 n0,.slice (some ⟨g3,0,none⟩) n0 n0,.slice (some ⟨g4,0,none⟩) n1 n1]:=by
 obtain ⟨_,h⟩:=h;exact h.v
def ops18ts:{ o:Array Oper // (match Go.Func.body Tryz.f54 with | some c => regionOf17 c 1 | none => none) = some o }:=⟨_,rfl⟩
def ops18t:Array Oper:=ops18ts.1
section
variable {t0 t1 t2 t3 t4 t5 t6 t7 t8 t9 t10 t11 t12 t13 t14 t15 t16 t17 t18 t19 t20 t21 t22 t23 t24 t25 t26:Value}
variable {Q:Exit->Act->World->Prop}
theorem laidt18 {w wc:World} {S:Sv14} {A0 A1 A2 A3 A4:Option Addr} {n0 n1 n2 n3 n4 c0 c1 c2 c3 c4:Nat} {sq:Int} {wC wT:Nat->Rat} (hf:Fine14 S) (hw:Wo18 S wC wT) (hb:By16 w S A0 A1 A2 A3 A4 n0 n1 n2 n3 n4 c0 c1 c2 c3 c4 sq wc)
  (hP:∀ c a d v w,Q (.panic c) (Act.put a (some d) v) w->Q (.panic c) a w)
  (hQ:∀ (x6 x7 x8 x9 x10 x11:Value) (wn:World) (gb go g1 g2 g3 g4:Nat),Tr18 w S A0 A1 A2 A3 A4 n0 n1 n2 n3 n4 c0 c1 c2 c3 c4 sq gb go g1 g2 g3 g4 (fun _ => (0,0)) (fun k => qr18 (wT k)) wn->Q .normal { tmps:=#[(.agg #[.slice A0 n0 c0,.slice A1 n1 c1,.slice A2 n2 c2,.slice A3 n3 c3,.slice A4 n4 c4,.int .i64 sq]),.pointer (some ⟨w.heap.size,0,none⟩),.slice none 0 0,.pointer (some ⟨gb,0,none⟩),.slice (some ⟨go,0,none⟩) n2 n2,t5,x6,x7,x8,x9,x10,x11,t12,t13,t14,t15,t16,t17,t18,t19,t20,t21,t22,t23,t24,t25,t26],defers:=[] } wn) :
  (Code.region 1 ops18t true).wp Tryz.prog Q { tmps:=#[(.agg #[.slice A0 n0 c0,.slice A1 n1 c1,.slice A2 n2 c2,.slice A3 n3 c3,.slice A4 n4 c4,.int .i64 sq]),.pointer (some ⟨w.heap.size,0,none⟩),.slice none 0 0,t3,t4,t5,t6,t7,t8,t9,t10,t11,t12,t13,t14,t15,t16,t17,t18,t19,t20,t21,t22,t23,t24,t25,t26],defers:=[] } wc:=by
 have hm2:=hb.s.m2;have hmk:=make_ratios18 n2 (by omega);have HL0:=qz hb.s.l0;have HL1:=qz hb.s.l1;have HRE:=qz (fun W (h:Bx14 w S A0 A1 A2 A3 A4 n0 n1 n2 n3 n4 c0 c1 c2 c3 c4 sq W) => reckoned18 (.agg #[.slice A0 n0 c0,.slice A1 n1 c1,.slice A2 n2 c2,.slice A3 n3 c3,.slice A4 n4 c4,.int .i64 sq]) S wC wT W h.st hf hw)
 have HXN:=qz (hb.step (Below.refl _ _).drew);clear hb hf hw hm2;refine wp_region_held_drew (S:=By16 w S A0 A1 A2 A3 A4 n0 n1 n2 n3 n4 c0 c1 c2 c3 c4 sq) (by kernel_rfl) HXN.out (fun hHeld => ?_)
 change wpAnyH _ _ ops18t _ _ 9 #[false,false,false,false,false,false,false,false,false] _ _
 obtain ⟨wn,hwn⟩:=exq wc.drew;rw [hwn] at HXN hHeld;rw [hwn];clear hwn;have HBS:=HXN;refine tkp hP 0 (v:=?_) (fun W hS => ?_) ?_;rotate_left
 ·
  try dsimp only at hS
  obtain ⟨z0,z1,z2,z3,z4,z5⟩:=ce6 hS.b.x;go_simp
  try with_reducible rfl
 try simp only [Act.put,pt1,pt2,pt3]
 refine tkpq hP 2 ?_;refine tkp hP 3 (v:=?_) (fun W hS => ?_) ?_;rotate_left
 ·
  try dsimp only at hS
  have z0:=hS.b.x.cell 2;go_simp
  try with_reducible rfl
 try simp only [Act.put,pt1,pt2,pt3]
 refine tkpq hP 4 ?_
 refine memo (fun a G => ∀ (wn:World) (g1 g2 g3 g4:Nat) (go:Nat) (gb:Nat),(By16 w S A0 A1 A2 A3 A4 n0 n1 n2 n3 n4 c0 c1 c2 c3 c4 sq wn)->(Qr18 wn g4 n1 (fun k => qr18 (wT k)))->(Qr18 wn go n2 (fun _ => (0,0)))->(w.heap.size + 1<=go)->(Blk wn gb 104 #[.slice (some ⟨g1,0,none⟩) n1 n1,.slice (some ⟨g2,0,none⟩) n0 n0,.slice (some ⟨g3,0,none⟩) n0 n0,.slice (some ⟨g4,0,none⟩) n1 n1])->(w.heap.size + 1<=gb)->(g4≠go)->G (((a.put (some 7) (.agg #[.slice (some ⟨g1,0,none⟩) n1 n1,.slice (some ⟨g2,0,none⟩) n0 n0,.slice (some ⟨g3,0,none⟩) n0 n0,.slice (some ⟨g4,0,none⟩) n1 n1])).put (some 11) (.slice (some ⟨go,0,none⟩) n2 n2)).put (some 3) (.pointer (some ⟨gb,0,none⟩))) wn) 1 #[true,true,true,true,true,true,true,true,false] ?_ ?_
 ·
  try simp only [Act.put,pt1,pt2,pt3]
  intro wn g1 g2 g3 g4 go gb HBS HQ4 HR HFgo HV HFgb HNE;have HBS:=qz HBS;have HQ4:=qz HQ4;have HR:=qz HR;have HFgo:=qz HFgo;have HV:=qz HV;have HFgb:=qz HFgb;have HNE:=qz HNE;refine rdy 8 (fun K hK => ?_);go_simp;refine koq hK HBS.out (fun hHeld=>?_);clear hK K;refine wpAnyH_done (by kernel_rfl) ?_ _
  exact hQ _ _ _ _ _ _ _ gb go g1 g2 g3 g4 ⟨HBS.out,HV.out,HQ4.out,HR.out,HFgo.out,HNE.out⟩
 intro key
 (try dsimp only [Act.put] at key); try simp only [pt1,pt2,pt3] at key
 have K_1_5_6_7:=qz key;clear key
 refine memo (fun a G => ∀ (wn:World) (g1 g2 g3 g4:Nat) (gb:Nat),(By16 w S A0 A1 A2 A3 A4 n0 n1 n2 n3 n4 c0 c1 c2 c3 c4 sq wn)->(Qr18 wn g4 n1 (fun k => qr18 (wT k)))->(Blk wn gb 104 #[.slice (some ⟨g1,0,none⟩) n1 n1,.slice (some ⟨g2,0,none⟩) n0 n0,.slice (some ⟨g3,0,none⟩) n0 n0,.slice (some ⟨g4,0,none⟩) n1 n1])->(w.heap.size + 1<=gb)->G ((a.put (some 7) (.agg #[.slice (some ⟨g1,0,none⟩) n1 n1,.slice (some ⟨g2,0,none⟩) n0 n0,.slice (some ⟨g3,0,none⟩) n0 n0,.slice (some ⟨g4,0,none⟩) n1 n1])).put (some 3) (.pointer (some ⟨gb,0,none⟩))) wn) 2 #[true,true,true,true,true,false,true,true,false] ?_ ?_
 ·
  try simp only [Act.put,pt1,pt2,pt3]
  intro wn g1 g2 g3 g4 gb HBS HQ4 HV HFgb;have HBS:=qz HBS;have HQ4:=qz HQ4;have HV:=qz HV;have HFgb:=qz HFgb;refine rdy 5 (fun K hK => ?_);have HNE:Hid (g4≠wn.heap.size):=qz (by have:=HQ4.out.lt; omega);have HBS0:=HBS;have hb:=b1' wn (.cells (madeCells #[.slice none 0 0,.slice none 0 0] (n2 * 2)) 46);have HBS:=qz (HBS0.out.step hb)
  have HQ4:=qz (HQ4.out.step hb);have HV:=qz (HV.out.below hb HV.out.lt);have HR:=qz (made18 wn n2);have HFgo:Hid (w.heap.size + 1<=wn.heap.size):=qz (by have:=HBS0.out.b.x.lt; omega);clear hb HBS0;obtain ⟨go,hgo⟩:=exq wn.heap.size;obtain ⟨wm,hwm⟩:=exq (wn.alloc (.cells (madeCells #[.slice none 0 0,.slice none 0 0] (n2 * 2)) 46));rw [hwm] at HBS HR HQ4 HV
  rw [hgo] at HR HFgo HNE;go_simp;clear hgo hwm;obtain ⟨wn,hwn⟩:∃ W,W = wm:=⟨_,rfl⟩
  subst hwn;refine koq hK HBS.out (fun hHeld=>?_);clear hK K;exact K_1_5_6_7.out _ _ _ _ _ _ _ HBS.out HQ4.out HR.out HFgo.out HV.out HFgb.out HNE.out
 intro key
 (try dsimp only [Act.put] at key); try simp only [pt1,pt2,pt3] at key
 have K_1_6_7:=qz key;clear key
 refine memo (fun a G => ∀ (wn:World) (g1 g2 g3 g4:Nat) (go:Nat) (gb:Nat),(By16 w S A0 A1 A2 A3 A4 n0 n1 n2 n3 n4 c0 c1 c2 c3 c4 sq wn)->(Qr18 wn g4 n1 (fun k => qr18 (wT k)))->(Qr18 wn go n2 (fun _ => (0,0)))->(w.heap.size + 1<=go)->(Blk wn gb 104 #[.slice none 0 0,.slice none 0 0,.slice none 0 0,.slice none 0 0])->(w.heap.size + 1<=gb)->(g4≠go)->G (((a.put (some 7) (.agg #[.slice (some ⟨g1,0,none⟩) n1 n1,.slice (some ⟨g2,0,none⟩) n0 n0,.slice (some ⟨g3,0,none⟩) n0 n0,.slice (some ⟨g4,0,none⟩) n1 n1])).put (some 11) (.slice (some ⟨go,0,none⟩) n2 n2)).put (some 3) (.pointer (some ⟨gb,0,none⟩))) wn) 2 #[true,true,true,true,true,true,true,false,false] ?_ ?_
 ·
  try simp only [Act.put,pt1,pt2,pt3]
  intro wn g1 g2 g3 g4 go gb HBS HQ4 HR HFgo HV HFgb HNE;have HBS:=qz HBS;have HQ4:=qz HQ4;have HR:=qz HR;have HFgo:=qz HFgo;have HV:=qz HV;have HFgb:=qz HFgb;have HNE:=qz HNE;refine rdy 7 (fun K hK => ?_);obtain ⟨x0,x1,x2,x3⟩:=ce4 HV.out;have xf0:=HV.out.frozen 0;have xf1:=HV.out.frozen 1;have xf2:=HV.out.frozen 2;have xf3:=HV.out.frozen 3;have HBS0:=HBS
  go_simp;obtain ⟨wm,hwm⟩:=exq ((((wn.setCell ⟨gb,0,none⟩ (.slice (some ⟨g1,0,none⟩) n1 n1)).setCell ⟨gb,1,none⟩ (.slice (some ⟨g2,0,none⟩) n0 n0)).setCell ⟨gb,2,none⟩ (.slice (some ⟨g3,0,none⟩) n0 n0)).setCell ⟨gb,3,none⟩ (.slice (some ⟨g4,0,none⟩) n1 n1));have hn4:=qr18_blk HQ4.out HV.out (by decide)
  have HQ4:=qz (show Qr18 wm g4 n1 _ by rw [<- hwm]; exact HQ4.out.put4b hn4 HV.out _ _ _ _);have hnr:=qr18_blk HR.out HV.out (by decide);have HR:=qz (show Qr18 wm go n2 _ by rw [<- hwm]; exact HR.out.put4b hnr HV.out _ _ _ _);clear hnr;have hgb2:w.heap.size + 1<=gb:=HFgb.out
  have HBS:=qz (HBS0.out.low (W':=wm) (by rw [<- hwm]; exact ((((Below.refl _ _).setCell hgb2 _).setCell hgb2 _).setCell hgb2 _).setCell hgb2 _));have HV:=qz (show Blk wm gb 104 #[.slice (some ⟨g1,0,none⟩) n1 n1,.slice (some ⟨g2,0,none⟩) n0 n0,.slice (some ⟨g3,0,none⟩) n0 n0,.slice (some ⟨g4,0,none⟩) n1 n1] by rw [<- hwm]; exact put4b18_blk HV.out _ _ _ _)
  rw [hwm];clear hwm x0 x1 x2 x3 xf0 xf1 xf2 xf3 hn4 hgb2 HBS0;obtain ⟨wn,hwn⟩:∃ W,W = wm:=⟨_,rfl⟩
  subst hwn;refine koq hK HBS.out (fun hHeld=>?_);clear hK K;exact K_1_5_6_7.out _ _ _ _ _ _ _ HBS.out HQ4.out HR.out HFgo.out HV.out HFgb.out HNE.out
 intro key
 (try dsimp only [Act.put] at key); try simp only [pt1,pt2,pt3] at key
 have K_1_5_6:=qz key;clear key
 refine memo (fun a G => ∀ (wn:World) (g1 g2 g3 g4:Nat) (gb:Nat),(By16 w S A0 A1 A2 A3 A4 n0 n1 n2 n3 n4 c0 c1 c2 c3 c4 sq wn)->(Qr18 wn g4 n1 (fun k => qr18 (wT k)))->(Blk wn gb 104 #[.slice none 0 0,.slice none 0 0,.slice none 0 0,.slice none 0 0])->(w.heap.size + 1<=gb)->G ((a.put (some 7) (.agg #[.slice (some ⟨g1,0,none⟩) n1 n1,.slice (some ⟨g2,0,none⟩) n0 n0,.slice (some ⟨g3,0,none⟩) n0 n0,.slice (some ⟨g4,0,none⟩) n1 n1])).put (some 3) (.pointer (some ⟨gb,0,none⟩))) wn) 3 #[true,true,true,true,true,false,true,false,false] ?_ ?_
 ·
  try simp only [Act.put,pt1,pt2,pt3]
  intro wn g1 g2 g3 g4 gb HBS HQ4 HV HFgb;have HBS:=qz HBS;have HQ4:=qz HQ4;have HV:=qz HV;have HFgb:=qz HFgb;refine wpAnyH_ready (rs:=[5,7]) (by kernel_rfl) (by simp) (rc (fun K hK => ?_) (rc (fun K hK => ?_) AllReadyH.nil))
  ·
   skip;have HNE:Hid (g4≠wn.heap.size):=qz (by have:=HQ4.out.lt; omega);have HBS0:=HBS;have hb:=b1' wn (.cells (madeCells #[.slice none 0 0,.slice none 0 0] (n2 * 2)) 46);have HBS:=qz (HBS0.out.step hb);have HQ4:=qz (HQ4.out.step hb);have HV:=qz (HV.out.below hb HV.out.lt);have HR:=qz (made18 wn n2)
   have HFgo:Hid (w.heap.size + 1<=wn.heap.size):=qz (by have:=HBS0.out.b.x.lt; omega);clear hb HBS0;obtain ⟨go,hgo⟩:=exq wn.heap.size;obtain ⟨wm,hwm⟩:=exq (wn.alloc (.cells (madeCells #[.slice none 0 0,.slice none 0 0] (n2 * 2)) 46));rw [hwm] at HBS HR HQ4 HV;rw [hgo] at HR HFgo HNE;go_simp;clear hgo hwm;obtain ⟨wn,hwn⟩:∃ W,W = wm:=⟨_,rfl⟩
   subst hwn;refine koq hK HBS.out (fun hHeld=>?_);clear hK K;exact K_1_5_6.out _ _ _ _ _ _ _ HBS.out HQ4.out HR.out HFgo.out HV.out HFgb.out HNE.out
  ·
   skip;obtain ⟨x0,x1,x2,x3⟩:=ce4 HV.out;have xf0:=HV.out.frozen 0;have xf1:=HV.out.frozen 1;have xf2:=HV.out.frozen 2;have xf3:=HV.out.frozen 3;have HBS0:=HBS;go_simp
   obtain ⟨wm,hwm⟩:=exq ((((wn.setCell ⟨gb,0,none⟩ (.slice (some ⟨g1,0,none⟩) n1 n1)).setCell ⟨gb,1,none⟩ (.slice (some ⟨g2,0,none⟩) n0 n0)).setCell ⟨gb,2,none⟩ (.slice (some ⟨g3,0,none⟩) n0 n0)).setCell ⟨gb,3,none⟩ (.slice (some ⟨g4,0,none⟩) n1 n1));have hn4:=qr18_blk HQ4.out HV.out (by decide)
   have HQ4:=qz (show Qr18 wm g4 n1 _ by rw [<- hwm]; exact HQ4.out.put4b hn4 HV.out _ _ _ _);have hgb2:w.heap.size + 1<=gb:=HFgb.out;have HBS:=qz (HBS0.out.low (W':=wm) (by rw [<- hwm]; exact ((((Below.refl _ _).setCell hgb2 _).setCell hgb2 _).setCell hgb2 _).setCell hgb2 _))
   have HV:=qz (show Blk wm gb 104 #[.slice (some ⟨g1,0,none⟩) n1 n1,.slice (some ⟨g2,0,none⟩) n0 n0,.slice (some ⟨g3,0,none⟩) n0 n0,.slice (some ⟨g4,0,none⟩) n1 n1] by rw [<- hwm]; exact put4b18_blk HV.out _ _ _ _);rw [hwm];clear hwm x0 x1 x2 x3 xf0 xf1 xf2 xf3 hn4 hgb2 HBS0;obtain ⟨wn,hwn⟩:∃ W,W = wm:=⟨_,rfl⟩
   subst hwn;refine koq hK HBS.out (fun hHeld=>?_);clear hK K;exact K_1_6_7.out _ _ _ _ _ _ HBS.out HQ4.out HV.out HFgb.out
 intro key
 (try dsimp only [Act.put] at key); try simp only [pt1,pt2,pt3] at key
 have K_1_6:=qz key;clear key
 refine memo (fun a G => ∀ (wn:World) (go:Nat) (gb:Nat),(By16 w S A0 A1 A2 A3 A4 n0 n1 n2 n3 n4 c0 c1 c2 c3 c4 sq wn)->(Qr18 wn go n2 (fun _ => (0,0)))->(w.heap.size + 1<=go)->(Blk wn gb 104 #[.slice none 0 0,.slice none 0 0,.slice none 0 0,.slice none 0 0])->(w.heap.size + 1<=gb)->G ((a.put (some 11) (.slice (some ⟨go,0,none⟩) n2 n2)).put (some 3) (.pointer (some ⟨gb,0,none⟩))) wn) 3 #[true,false,true,true,true,true,true,false,false] ?_ ?_
 ·
  try simp only [Act.put,pt1,pt2,pt3]
  intro wn go gb HBS HR HFgo HV HFgb;have HBS:=qz HBS;have HR:=qz HR;have HFgo:=qz HFgo;have HV:=qz HV;have HFgb:=qz HFgb;refine rdy 1 (fun K hK => ?_);have HBS0:=HBS;go_simp;refine (HRE.out _ HBS0.out.b).mono ?_;have hlr:=HR.out.lt;rintro e wn ⟨g1,g2,g3,g4,rfl,h1,h2,h3,h4,hb⟩;have HBS:=qz (HBS0.out.step hb);have HR:=qz (HR.out.step hb)
  have HV:=qz (HV.out.below hb HV.out.lt);rw [HL0.out,HL1.out];rw [HL1.out] at h4;have HQ4:=qz h4;have HNE:Hid (g4≠go):=qz (by have:=hlr; omega);clear hb HBS0 h1 h2 h3 h4 hlr;refine koq hK HBS.out (fun hHeld=>?_);clear hK K;exact K_1_5_6.out _ _ _ _ _ _ _ HBS.out HQ4.out HR.out HFgo.out HV.out HFgb.out HNE.out
 intro key
 (try dsimp only [Act.put] at key); try simp only [pt1,pt2,pt3] at key
 have K_5_6:=qz key;clear key
 refine memo (fun a G => ∀ (wn:World) (g1 g2 g3 g4:Nat) (go:Nat),(By16 w S A0 A1 A2 A3 A4 n0 n1 n2 n3 n4 c0 c1 c2 c3 c4 sq wn)->(Qr18 wn g4 n1 (fun k => qr18 (wT k)))->(Qr18 wn go n2 (fun _ => (0,0)))->(w.heap.size + 1<=go)->(g4≠go)->G ((a.put (some 7) (.agg #[.slice (some ⟨g1,0,none⟩) n1 n1,.slice (some ⟨g2,0,none⟩) n0 n0,.slice (some ⟨g3,0,none⟩) n0 n0,.slice (some ⟨g4,0,none⟩) n1 n1])).put (some 11) (.slice (some ⟨go,0,none⟩) n2 n2)) wn) 3 #[true,true,true,true,true,true,false,false,false] ?_ ?_
 ·
  try simp only [Act.put,pt1,pt2,pt3]
  intro wn g1 g2 g3 g4 go HBS HQ4 HR HFgo HNE;have HBS:=qz HBS;have HQ4:=qz HQ4;have HR:=qz HR;have HFgo:=qz HFgo;have HNE:=qz HNE;refine rdy 6 (fun K hK => ?_);have HBS0:=HBS;have hb:=b1' wn (.cells #[.slice none 0 0,.slice none 0 0,.slice none 0 0,.slice none 0 0] 104);have HBS:=qz (HBS0.out.step hb);have HQ4:=qz (HQ4.out.step hb)
  have HR:=qz (HR.out.step hb);have HV:=qz (Blk.new wn 104 #[.slice none 0 0,.slice none 0 0,.slice none 0 0,.slice none 0 0]);have HFgb:Hid (w.heap.size + 1<=wn.heap.size):=qz (by have:=HBS0.out.b.x.lt; omega);clear hb HBS0;obtain ⟨gb,hgb⟩:=exq wn.heap.size
  obtain ⟨wm,hwm⟩:=exq (wn.alloc (.cells #[.slice none 0 0,.slice none 0 0,.slice none 0 0,.slice none 0 0] 104));rw [hwm] at HBS HV HQ4 HR;rw [hgb] at HV HFgb;go_simp;clear hgb hwm;obtain ⟨wn,hwn⟩:∃ W,W = wm:=⟨_,rfl⟩
  subst hwn;refine koq hK HBS.out (fun hHeld=>?_);clear hK K;exact K_1_5_6.out _ _ _ _ _ _ _ HBS.out HQ4.out HR.out HFgo.out HV.out HFgb.out HNE.out
 intro key
 (try dsimp only [Act.put] at key); try simp only [pt1,pt2,pt3] at key
 have K_1_5:=qz key;clear key;refine memo (fun a G => ∀ (wn:World) (gb:Nat),(By16 w S A0 A1 A2 A3 A4 n0 n1 n2 n3 n4 c0 c1 c2 c3 c4 sq wn)->(Blk wn gb 104 #[.slice none 0 0,.slice none 0 0,.slice none 0 0,.slice none 0 0])->(w.heap.size + 1<=gb)->G (a.put (some 3) (.pointer (some ⟨gb,0,none⟩))) wn) 4 #[true,false,true,true,true,false,true,false,false] ?_ ?_
 ·
  try simp only [Act.put,pt1,pt2,pt3]
  intro wn gb HBS HV HFgb;have HBS:=qz HBS;have HV:=qz HV;have HFgb:=qz HFgb;refine wpAnyH_ready (rs:=[1,5]) (by kernel_rfl) (by simp) (rc (fun K hK => ?_) (rc (fun K hK => ?_) AllReadyH.nil))
  ·
   skip;have HBS0:=HBS;go_simp;refine (HRE.out _ HBS0.out.b).mono ?_;rintro e wn ⟨g1,g2,g3,g4,rfl,h1,h2,h3,h4,hb⟩;have HBS:=qz (HBS0.out.step hb);have HV:=qz (HV.out.below hb HV.out.lt);rw [HL0.out,HL1.out];rw [HL1.out] at h4;have HQ4:=qz h4;clear hb HBS0 h1 h2 h3 h4;refine koq hK HBS.out (fun hHeld=>?_);clear hK K
   exact K_1_6.out _ _ _ _ _ _ HBS.out HQ4.out HV.out HFgb.out
  ·
   skip;have HBS0:=HBS;have hb:=b1' wn (.cells (madeCells #[.slice none 0 0,.slice none 0 0] (n2 * 2)) 46);have HBS:=qz (HBS0.out.step hb);have HV:=qz (HV.out.below hb HV.out.lt);have HR:=qz (made18 wn n2);have HFgo:Hid (w.heap.size + 1<=wn.heap.size):=qz (by have:=HBS0.out.b.x.lt; omega);clear hb HBS0;obtain ⟨go,hgo⟩:=exq wn.heap.size
   obtain ⟨wm,hwm⟩:=exq (wn.alloc (.cells (madeCells #[.slice none 0 0,.slice none 0 0] (n2 * 2)) 46));rw [hwm] at HBS HR HV;rw [hgo] at HR HFgo;go_simp;clear hgo hwm;obtain ⟨wn,hwn⟩:∃ W,W = wm:=⟨_,rfl⟩
   subst hwn;refine koq hK HBS.out (fun hHeld=>?_);clear hK K;exact K_5_6.out _ _ _ HBS.out HR.out HFgo.out HV.out HFgb.out
 intro key
 (try dsimp only [Act.put] at key); try simp only [pt1,pt2,pt3] at key
 have K_6:=qz key;clear key
 refine memo (fun a G => ∀ (wn:World) (g1 g2 g3 g4:Nat),(By16 w S A0 A1 A2 A3 A4 n0 n1 n2 n3 n4 c0 c1 c2 c3 c4 sq wn)->(Qr18 wn g4 n1 (fun k => qr18 (wT k)))->G (a.put (some 7) (.agg #[.slice (some ⟨g1,0,none⟩) n1 n1,.slice (some ⟨g2,0,none⟩) n0 n0,.slice (some ⟨g3,0,none⟩) n0 n0,.slice (some ⟨g4,0,none⟩) n1 n1])) wn) 4 #[true,true,true,true,true,false,false,false,false] ?_ ?_
 ·
  try simp only [Act.put,pt1,pt2,pt3]
  intro wn g1 g2 g3 g4 HBS HQ4;have HBS:=qz HBS;have HQ4:=qz HQ4;refine wpAnyH_ready (rs:=[5,6]) (by kernel_rfl) (by simp) (rc (fun K hK => ?_) (rc (fun K hK => ?_) AllReadyH.nil))
  ·
   skip;have HNE:Hid (g4≠wn.heap.size):=qz (by have:=HQ4.out.lt; omega);have HBS0:=HBS;have hb:=b1' wn (.cells (madeCells #[.slice none 0 0,.slice none 0 0] (n2 * 2)) 46);have HBS:=qz (HBS0.out.step hb);have HQ4:=qz (HQ4.out.step hb);have HR:=qz (made18 wn n2);have HFgo:Hid (w.heap.size + 1<=wn.heap.size):=qz (by have:=HBS0.out.b.x.lt; omega);clear hb HBS0
   obtain ⟨go,hgo⟩:=exq wn.heap.size;obtain ⟨wm,hwm⟩:=exq (wn.alloc (.cells (madeCells #[.slice none 0 0,.slice none 0 0] (n2 * 2)) 46));rw [hwm] at HBS HR HQ4;rw [hgo] at HR HFgo HNE;go_simp;clear hgo hwm;obtain ⟨wn,hwn⟩:∃ W,W = wm:=⟨_,rfl⟩
   subst hwn;refine koq hK HBS.out (fun hHeld=>?_);clear hK K;exact K_1_5.out _ _ _ _ _ _ HBS.out HQ4.out HR.out HFgo.out HNE.out
  ·
   skip;have HBS0:=HBS;have hb:=b1' wn (.cells #[.slice none 0 0,.slice none 0 0,.slice none 0 0,.slice none 0 0] 104);have HBS:=qz (HBS0.out.step hb);have HQ4:=qz (HQ4.out.step hb);have HV:=qz (Blk.new wn 104 #[.slice none 0 0,.slice none 0 0,.slice none 0 0,.slice none 0 0])
   have HFgb:Hid (w.heap.size + 1<=wn.heap.size):=qz (by have:=HBS0.out.b.x.lt; omega);clear hb HBS0;obtain ⟨gb,hgb⟩:=exq wn.heap.size;obtain ⟨wm,hwm⟩:=exq (wn.alloc (.cells #[.slice none 0 0,.slice none 0 0,.slice none 0 0,.slice none 0 0] 104));rw [hwm] at HBS HV HQ4;rw [hgb] at HV HFgb;go_simp;clear hgb hwm;obtain ⟨wn,hwn⟩:∃ W,W = wm:=⟨_,rfl⟩
   subst hwn;refine koq hK HBS.out (fun hHeld=>?_);clear hK K;exact K_1_6.out _ _ _ _ _ _ HBS.out HQ4.out HV.out HFgb.out
 intro key
 (try dsimp only [Act.put] at key); try simp only [pt1,pt2,pt3] at key
 have K_1:=qz key;clear key;refine memo (fun a G => ∀ (wn:World) (go:Nat),(By16 w S A0 A1 A2 A3 A4 n0 n1 n2 n3 n4 c0 c1 c2 c3 c4 sq wn)->(Qr18 wn go n2 (fun _ => (0,0)))->(w.heap.size + 1<=go)->G (a.put (some 11) (.slice (some ⟨go,0,none⟩) n2 n2)) wn) 4 #[true,false,true,true,true,true,false,false,false] ?_ ?_
 ·
  try simp only [Act.put,pt1,pt2,pt3]
  intro wn go HBS HR HFgo;have HBS:=qz HBS;have HR:=qz HR;have HFgo:=qz HFgo;refine wpAnyH_ready (rs:=[1,6]) (by kernel_rfl) (by simp) (rc (fun K hK => ?_) (rc (fun K hK => ?_) AllReadyH.nil))
  ·
   skip;have HBS0:=HBS;go_simp;refine (HRE.out _ HBS0.out.b).mono ?_;have hlr:=HR.out.lt;rintro e wn ⟨g1,g2,g3,g4,rfl,h1,h2,h3,h4,hb⟩;have HBS:=qz (HBS0.out.step hb);have HR:=qz (HR.out.step hb);rw [HL0.out,HL1.out];rw [HL1.out] at h4;have HQ4:=qz h4;have HNE:Hid (g4≠go):=qz (by have:=hlr; omega);clear hb HBS0 h1 h2 h3 h4 hlr
   refine koq hK HBS.out (fun hHeld=>?_);clear hK K;exact K_1_5.out _ _ _ _ _ _ HBS.out HQ4.out HR.out HFgo.out HNE.out
  ·
   skip;have HBS0:=HBS;have hb:=b1' wn (.cells #[.slice none 0 0,.slice none 0 0,.slice none 0 0,.slice none 0 0] 104);have HBS:=qz (HBS0.out.step hb);have HR:=qz (HR.out.step hb);have HV:=qz (Blk.new wn 104 #[.slice none 0 0,.slice none 0 0,.slice none 0 0,.slice none 0 0])
   have HFgb:Hid (w.heap.size + 1<=wn.heap.size):=qz (by have:=HBS0.out.b.x.lt; omega);clear hb HBS0;obtain ⟨gb,hgb⟩:=exq wn.heap.size;obtain ⟨wm,hwm⟩:=exq (wn.alloc (.cells #[.slice none 0 0,.slice none 0 0,.slice none 0 0,.slice none 0 0] 104));rw [hwm] at HBS HV HR;rw [hgb] at HV HFgb;go_simp;clear hgb hwm;obtain ⟨wn,hwn⟩:∃ W,W = wm:=⟨_,rfl⟩
   subst hwn;refine koq hK HBS.out (fun hHeld=>?_);clear hK K;exact K_5_6.out _ _ _ HBS.out HR.out HFgo.out HV.out HFgb.out
 intro key
 (try dsimp only [Act.put] at key); try simp only [pt1,pt2,pt3] at key
 have K_5:=qz key;clear key;refine wpAnyH_ready (rs:=[1,5,6]) (by kernel_rfl) (by simp) (rc (fun K hK => ?_) (rc (fun K hK => ?_) (rc (fun K hK => ?_) AllReadyH.nil)))
 ·
  skip;have HBS0:=HBS;go_simp;refine (HRE.out _ HBS0.out.b).mono ?_;rintro e wn ⟨g1,g2,g3,g4,rfl,h1,h2,h3,h4,hb⟩;have HBS:=qz (HBS0.out.step hb);rw [HL0.out,HL1.out];rw [HL1.out] at h4;have HQ4:=qz h4;clear hb HBS0 h1 h2 h3 h4;refine koq hK HBS.out (fun hHeld=>?_);clear hK K;exact K_1.out _ _ _ _ _ HBS.out HQ4.out
 ·
  skip;have HBS0:=HBS;have hb:=b1' wn (.cells (madeCells #[.slice none 0 0,.slice none 0 0] (n2 * 2)) 46);have HBS:=qz (HBS0.out.step hb);have HR:=qz (made18 wn n2);have HFgo:Hid (w.heap.size + 1<=wn.heap.size):=qz (by have:=HBS0.out.b.x.lt; omega);clear hb HBS0;obtain ⟨go,hgo⟩:=exq wn.heap.size
  obtain ⟨wm,hwm⟩:=exq (wn.alloc (.cells (madeCells #[.slice none 0 0,.slice none 0 0] (n2 * 2)) 46));rw [hwm] at HBS HR;rw [hgo] at HR HFgo;go_simp;clear hgo hwm;obtain ⟨wn,hwn⟩:∃ W,W = wm:=⟨_,rfl⟩
  subst hwn;refine koq hK HBS.out (fun hHeld=>?_);clear hK K;exact K_5.out _ _ HBS.out HR.out HFgo.out
 ·
  skip;have HBS0:=HBS;have hb:=b1' wn (.cells #[.slice none 0 0,.slice none 0 0,.slice none 0 0,.slice none 0 0] 104);have HBS:=qz (HBS0.out.step hb);have HV:=qz (Blk.new wn 104 #[.slice none 0 0,.slice none 0 0,.slice none 0 0,.slice none 0 0]);have HFgb:Hid (w.heap.size + 1<=wn.heap.size):=qz (by have:=HBS0.out.b.x.lt; omega);clear hb HBS0
  obtain ⟨gb,hgb⟩:=exq wn.heap.size;obtain ⟨wm,hwm⟩:=exq (wn.alloc (.cells #[.slice none 0 0,.slice none 0 0,.slice none 0 0,.slice none 0 0] 104));rw [hwm] at HBS HV;rw [hgb] at HV HFgb;go_simp;clear hgb hwm;obtain ⟨wn,hwn⟩:∃ W,W = wm:=⟨_,rfl⟩
  subst hwn;refine koq hK HBS.out (fun hHeld=>?_);clear hK K;exact K_6.out _ _ HBS.out HV.out HFgb.out
end
theorem threads18 (v:Value) (S:Sv14) (wC wT:Nat->Rat) (w:World) (h:St14 w v S) (hf:Fine14 S) (hw:Wo18 S wC wT) :
  Calls Tryz.prog 54 #[v] w (RetQs18 w S.H.length (fun i => qr18 (th18 S wT i))):=by
 obtain ⟨A0,A1,A2,A3,A4,n0,n1,n2,n3,n4,c0,c1,c2,c3,c4,sq,rfl,hs⟩:=h;have HP:Hid (RetQs18 w S.H.length (fun i => qr18 (th18 S wT i)) = fun e w' => ∃ g,e = .returned (.slice (some ⟨g,0,none⟩) n2 n2)/\w.heap.size<=g/\Qr18 w' g n2 (fun i => qr18 (th18 S wT i))/\Below w.heap.size w w'):=qz (by unfold RetQs18; rw [hs.l2]);obtain ⟨hfc,hft,_⟩:=hw.fits hf
 obtain ⟨_,hwt⟩:=hw.small hf;have hx0:By16 w S A0 A1 A2 A3 A4 n0 n1 n2 n3 n4 c0 c1 c2 c3 c4 sq _:=⟨Bx14.new hs,hs⟩
 obtain ⟨W1,hW1⟩:=exq (w.alloc (.cells #[.slice A0 n0 c0,.slice A1 n1 c1,.slice A2 n2 c2,.slice A3 n3 c3,.slice A4 n4 c4,.int .i64 sq] 28));rw [hW1] at hx0;have HX0:=qz hx0;have HF:=qz hf;have HWO:=qz hw;have HFT:Hid (∀ c,Sm18 (qr18 (wT c))):=qz hft;have HWN:Hid (∀ k,0<=wT k):=qz (fun k => (hwt k).2.1)
 have HOF:=qz (fun (i:Int) W (h:Bx14 w S A0 A1 A2 A3 A4 n0 n1 n2 n3 n4 c0 c1 c2 c3 c4 sq W) => of15 (.agg #[.slice A0 n0 c0,.slice A1 n1 c1,.slice A2 n2 c2,.slice A3 n3 c3,.slice A4 n4 c4,.int .i64 sq]) S i W h.st);have HL1:=qz hs.l1;have hm2:=hs.m2;clear hs hx0 hf hw hfc hft hwt;go_enter Tryz.func54,Tryz.ntmps54;go_upto_region 1 with (fail)
 try rw [hW1]
 refine laidt18 HF.out HWO.out HX0.out (fun _ _ _ _ _ h => h) (fun x6 x7 x8 x9 x10 x11 wn gb go g1 g2 g3 g4 htr => ?_);have HT0:=qz htr;clear htr HX0 hW1;go_wp2_with fail
 go_loopw [14] (fun i wr => ∃ (k:Nat) (q:Nat->Nat × Nat),i = .int .i64 (k:Int)/\k<=n2/\Hid (∀ j,j < k->q j = qr18 (th18 S wT j))/\Hid (Tr18 w S A0 A1 A2 A3 A4 n0 n1 n2 n3 n4 c0 c1 c2 c3 c4 sq gb go g1 g2 g3 g4 q (fun k => qr18 (wT k)) wr)) (fun i _ => n2 - (intOf i).toNat)
 case atStart => exact ⟨0,_,rfl,by omega,qz (fun j hj => by omega),HT0⟩
 case round =>
  clear HT0;obtain ⟨k,q,rfl,hk,HM,HT⟩:=hrel;by_cases hkn:k < n2
  ·
   have i0:(0:Int)<=(k:Int):=by omega
   have i1:(k:Int) < (n2:Int):=by omega
   obtain ⟨l,hl⟩:=exq (ofs15 S (k:Int));have HOK:=qz (HOF.out (k:Int));rw [hl] at HOK;obtain ⟨m,hm⟩:=exq l.length;have HLM:=qz hm;have hth:=th18_ofs (wT:=wT) HF.out.2.2.2.2.1 k;rw [hl,hm] at hth
   have hlm:m<=100:=by
    have h1:=tks15_len S (fnd15 1 (k:Int)) S.T.length;have h2:S.T.length<=96:=HF.out.2.2.1.2.1.1;rw [<- hm,<- hl];unfold ofs15;split
    · omega
    · simp
   have hlx:∀ x,x∈l->x < n1:=fun x hx => by
    rw [<- hl] at hx;unfold ofs15 at hx;split at hx
    ·
     have:=(tks15_mem.1 hx).1;have h2:=HL1.out;omega
    · simp at hx
   have HTG:Hid (∀ A ca W,Tx18 w S A0 A1 A2 A3 A4 n0 n1 n2 n3 n4 c0 c1 c2 c3 c4 sq gb go g1 g2 g3 g4 (fun k => qr18 (wT k)) W->Rd W W.heap.size A l->Calls Tryz.prog 74 #[.agg #[.slice (some ⟨g1,0,none⟩) n1 n1,.slice (some ⟨g2,0,none⟩) n0 n0,.slice (some ⟨g3,0,none⟩) n0 n0,.slice (some ⟨g4,0,none⟩) n1 n1],.slice A m ca] W (RetQ W (qr18 (th18 S wT k)).1 (qr18 (th18 S wT k)).2)):=qz (fun A ca W ⟨_,h⟩ hr => by
    have h1:=together18 (some ⟨g1,0,none⟩) (some ⟨g2,0,none⟩) (some ⟨g3,0,none⟩) n1 n1 n0 n0 n0 n0 g4 n1 A l m ca (fun k => qr18 (wT k)) W h.r4 hm hr hlx (fun k _ => HFT.out k) hlm;rw [fold18_range l m HWN.out,<- hth] at h1
    exact h1)
   have HAD:=qz (HT.out.step (Below.refl _ wr).drew);have HQA:Hid (Tx18 w S A0 A1 A2 A3 A4 n0 n1 n2 n3 n4 c0 c1 c2 c3 c4 sq gb go g1 g2 g3 g4 (fun k => qr18 (wT k)) wr):=qz ⟨_,HT.out⟩
   have HMN:Hid (∀ j,j < k + 1->upd q k ((qr18 (th18 S wT k)).1,(qr18 (th18 S wT k)).2) j = qr18 (th18 S wT j)):=qz (fun j hj => by
    by_cases e:j = k
    · subst e; rw [upd_at]
    · rw [upd_far _ _ e]; exact HM.out j (by omega))
   obtain ⟨u1,hu1⟩:=exq ((qr18 (th18 S wT k)).1);obtain ⟨u2,hu2⟩:=exq ((qr18 (th18 S wT k)).2);rw [hu1,hu2] at HTG HMN;clear hl hm hth hlx hlm HT HM hu1 hu2;have HXN:Hid (Tx18 w S A0 A1 A2 A3 A4 n0 n1 n2 n3 n4 c0 c1 c2 c3 c4 sq gb go g1 g2 g3 g4 (fun k => qr18 (wT k)) wr.drew):=qz (HQA.out.step (Below.refl _ _).drew);clear HQA;obtain ⟨wn,hwn⟩:=exq wr.drew
   rw [hwn] at HXN HAD;go_wp2_with fail;refine wp_region_held_drew (S:=Tx18 w S A0 A1 A2 A3 A4 n0 n1 n2 n3 n4 c0 c1 c2 c3 c4 sq gb go g1 g2 g3 g4 (fun k => qr18 (wT k))) (by kernel_rfl) (by rw [hwn]; exact HXN.out) (fun hHeld => ?_);rw [hwn] at hHeld ⊢;clear hwn;have HBS:=HXN;refine tkq 0 ?_;refine tkq 1 ?_;refine tk 2 (v:=?_) (fun W hS => ?_) ?_
   rotate_left
   ·
    try dsimp only at hS
    obtain ⟨z0,z1,z2,z3⟩:=ce4 hS.v;go_simp
    try with_reducible rfl
   try simp only [Act.put,pt1,pt2,pt3]
   refine tk 3 (v:=?_) (fun W hS => ?_) ?_;rotate_left
   ·
    try dsimp only at hS
    obtain ⟨z0,z1,z2,z3,z4,z5⟩:=ce6 hS.b.b.x;go_simp
    try with_reducible rfl
   try simp only [Act.put,pt1,pt2,pt3]
   refine tkq 4 ?_;refine rdy 5 (fun K hK => ?_);have HBS0:=HBS;go_simp;refine (HOK.out _ HBS0.out.b.b).mono ?_;rintro e wn ⟨A,ca,rfl,hr,hb⟩;have HBS:=qz (HBS0.out.step hb);have HAD:=qz (HAD.out.step hb);rw [HLM.out];have HRO:=qz hr;clear hb HBS0 hr;refine koq hK HBS.out (fun hHeld=>?_);clear hK K;refine rdy 6 (fun K hK => ?_);have HBS0:=HBS;go_simp
   refine (HTG.out A ca _ HBS0.out HRO.out).mono ?_;rintro e wn ⟨E1,j1,o1,E2,j2,o2,rfl,hx,hy,hb⟩;have HBS:=qz (HBS0.out.step hb);have HAD:=qz (HAD.out.step hb);have HX:=qz hx;have HY:=qz hy;clear hb HBS0 hx hy HRO;refine koq hK HBS.out (fun hHeld=>?_);clear hK K;refine tkq 7 ?_;refine rdy 8 (fun K hK => ?_)
   obtain ⟨_,_,_,_,_,_,y1,y2,_,_,yf1,yf2⟩:=HAD.out.r.cells (k:=k) (by omega);have HAD0:=HAD;go_simp;obtain ⟨wm,hwm⟩:=exq ((wn.setCell ⟨go,k * 2,none⟩ (.slice E1 j1 o1)).setCell ⟨go,k * 2 + 1,none⟩ (.slice E2 j2 o2))
   have HAD:Hid (Tr18 w S A0 A1 A2 A3 A4 n0 n1 n2 n3 n4 c0 c1 c2 c3 c4 sq gb go g1 g2 g3 g4 (upd q k (u1,u2)) (fun k => qr18 (wT k)) wm):=qz (by rw [<- hwm]; exact HAD0.out.put (by omega) HX.out HY.out);have HBS:Hid (Tx18 w S A0 A1 A2 A3 A4 n0 n1 n2 n3 n4 c0 c1 c2 c3 c4 sq gb go g1 g2 g3 g4 (fun k => qr18 (wT k)) wm):=qz ⟨_,HAD.out⟩;rw [hwm]
   clear hwm y1 y2 yf1 yf2 HAD0 HX HY;obtain ⟨wn,hwn⟩:∃ W,W = wm:=⟨_,rfl⟩
   subst hwn;refine koq hK HBS.out (fun hHeld=>?_);clear hK K;refine wpAnyH_done (by kernel_rfl) ?_ _;clear hHeld;have HN:=HAD;clear HXN HTG HOK HBS HAD;go_wp2_with fail;go_roundw
   case rel => exact ⟨k + 1,_,by go_num,by omega,HMN,HN⟩
   case measure => simp [intOf]; omega
  ·
   obtain rfl:n2 = k:=by omega
   have i1:¬ (n2:Int) < (n2:Int):=by omega
   go_wp2_with fail;go_ret;rw [HP.out];exact ⟨_,rfl,by have:=HT.out.fo; omega,HT.out.r.congr HM.out,HT.out.b.b.b⟩
def RetQ0 (w:World) (n d:Nat) (e:Ending) (w':World):Prop:=∃ A1 n1 c1 A2 n2 c2,e = .returned (.agg #[.slice A1 n1 c1,.slice A2 n2 c2])/\Nv w' 0 (.slice A1 n1 c1) n/\Nv w' 0 (.slice A2 n2 c2) d/\Below w.heap.size w w'
theorem info_ratios19:(Tryz.prog.info? 40).map (fun i => (i.zero,i.size,i.bytes)) = some (some (.slice none 0 0),1,24):=by kernel_rfl
theorem make_rows19 (n:Nat) (hn:n<=1000000) (W:World):(Instr.makeSlice 65 (.int .i64 (n:Int)) (.int .i64 (n:Int))).run Tryz.prog W =
  .ok (.slice (some ⟨W.heap.size,0,none⟩) n n) (W.alloc (.cells (madeCells #[.slice none 0 0] n) 40)):=by
 obtain ⟨i,hi,hzz⟩:=Option.map_eq_some_iff.1 info_ratios19;simp only [Prod.mk.injEq] at hzz;obtain ⟨hz,hs,hb⟩:=hzz;have hr:=run_make (P:=Tryz.prog) W 65 40 i _ Tryz.underlying65 hi hz .i64 .i64 n n (by omega) (Int.le_refl _) (by rw [hb]; omega) (by omega);simp only [Int.toNat_natCast,hs,Value.cells,Nat.mul_one] at hr;exact hr
theorem step_append19 {ops:Array Oper} {o:Oper} {a:Act} {K:Act->World->Prop} {Q:Exit->Act->World->Prop} {E:Prop} (t:TypeId) (W w':World) (hgd:o.guard = none) (s x:Operand)
  (ho:o.op = .call { callee:=.builtin .append,args:=#[s,x],argTypes:=#[t,t] }) (hty:o.type = t) (v y r:Value) (hs:a.eval s = v) (hx:a.eval x = y)
  (hrun:(Builtin.append_ #[t,t] t #[v,y]).run Tryz.prog W = .ok r w') (h:K (a.put o.dst r) w') :
  if Region.wanted o (yielded ops a.tmps) = true then Oper.wp Tryz.prog o a W K Q else E:=by
 have hw:Region.wanted o (yielded ops a.tmps) = true:=by simp [Region.wanted,hgd]
 rw [if_pos hw];unfold Oper.wp execOp;simp only [ho,hty,resolve,invoke,builtin,Sem.run_bind,Sem.run_pure,Result.andThen_ok,List.map_toArray,List.map_cons,List.map_nil,hs,hx,hrun];exact h
structure Hw19 (w:World) (S:Sv14) (A0 A1 A2 A3 A4:Option Addr) (n0 n1 n2 n3 n4 c0 c1 c2 c3 c4:Nat) (sq:Int) (w0:World) (E:Nat) (cl:Nat->List Value) (ls:Nat->List Nat) (W:World):Prop where
 b:By16 w S A0 A1 A2 A3 A4 n0 n1 n2 n3 n4 c0 c1 c2 c3 c4 sq W
 z:w0.grownBy W (some E)
 o:∃ Af cf,Hd19 W w0.heap.size E n2 cl ls Af cf
 e:w.heap.size + 1<=E
theorem Hw19.step {w:World} {S:Sv14} {A0 A1 A2 A3 A4:Option Addr} {n0 n1 n2 n3 n4 c0 c1 c2 c3 c4:Nat} {sq:Int} {w0:World} {E:Nat} {cl:Nat->List Value} {ls:Nat->List Nat} {W W':World} (h:Hw19 w S A0 A1 A2 A3 A4 n0 n1 n2 n3 n4 c0 c1 c2 c3 c4 sq w0 E cl ls W) (hb:Below W.heap.size W W'):Hw19 w S A0 A1 A2 A3 A4 n0 n1 n2 n3 n4 c0 c1 c2 c3 c4 sq w0 E cl ls W':=by
 obtain ⟨h1,h2,⟨Af,cf,h3⟩,h4⟩:=h;exact ⟨h1.step hb,but19 h2 (hb.mono h2.size),⟨Af,cf,h3.step hb⟩,h4⟩
theorem Hw19.congr {w:World} {S:Sv14} {A0 A1 A2 A3 A4:Option Addr} {n0 n1 n2 n3 n4 c0 c1 c2 c3 c4:Nat} {sq:Int} {w0:World} {E:Nat} {cl:Nat->List Value} {ls ls':Nat->List Nat} {W:World} (h:Hw19 w S A0 A1 A2 A3 A4 n0 n1 n2 n3 n4 c0 c1 c2 c3 c4 sq w0 E cl ls W) (e:∀ k,ls k = ls' k):Hw19 w S A0 A1 A2 A3 A4 n0 n1 n2 n3 n4 c0 c1 c2 c3 c4 sq w0 E cl ls' W:=(funext e:ls = ls') ▸ h
structure Hi19 (w:World) (S:Sv14) (A0 A1 A2 A3 A4:Option Addr) (n0 n1 n2 n3 n4 c0 c1 c2 c3 c4:Nat) (sq:Int) (w0:World) (E:Nat) (cl:Nat->List Value) (ls:Nat->List Nat) (gv:Nat) (B:Array Value) (L:Nat) (A:Option Addr) (m c:Nat) (l:List Nat) (W:World):Prop where
 b:By16 w S A0 A1 A2 A3 A4 n0 n1 n2 n3 n4 c0 c1 c2 c3 c4 sq W
 z:w0.grownBy W (some E)
 o:∃ Af cf,Hd19 W w0.heap.size E n2 cl ls Af cf/\∀ k,k < n2->ob (Af k)≠some gv
 e:w.heap.size + 1<=E
 v:Blk W gv 46 B
 r:W.ownsRow L 3 1 (.slice A m c) m (ints l)
theorem Hi19.step {w:World} {S:Sv14} {A0 A1 A2 A3 A4:Option Addr} {n0 n1 n2 n3 n4 c0 c1 c2 c3 c4:Nat} {sq:Int} {w0:World} {E:Nat} {cl:Nat->List Value} {ls:Nat->List Nat} {gv:Nat} {B:Array Value} {L:Nat} {A:Option Addr} {m c:Nat} {l:List Nat} {W W':World} (h:Hi19 w S A0 A1 A2 A3 A4 n0 n1 n2 n3 n4 c0 c1 c2 c3 c4 sq w0 E cl ls gv B L A m c l W) (hb:Below W.heap.size W W'):Hi19 w S A0 A1 A2 A3 A4 n0 n1 n2 n3 n4 c0 c1 c2 c3 c4 sq w0 E cl ls gv B L A m c l W':=by
 obtain ⟨h1,h2,⟨Af,cf,h3,h5⟩,h4,h6,h7⟩:=h;exact ⟨h1.step hb,but19 h2 (hb.mono h2.size),⟨Af,cf,h3.step hb,h5⟩,h4,h6.below hb h6.lt,own7_keep h7 hb⟩
theorem Hi19.congr {w:World} {S:Sv14} {A0 A1 A2 A3 A4:Option Addr} {n0 n1 n2 n3 n4 c0 c1 c2 c3 c4:Nat} {sq:Int} {w0:World} {E:Nat} {cl:Nat->List Value} {ls ls':Nat->List Nat} {gv:Nat} {B:Array Value} {L:Nat} {A:Option Addr} {m c:Nat} {l:List Nat} {W:World} (h:Hi19 w S A0 A1 A2 A3 A4 n0 n1 n2 n3 n4 c0 c1 c2 c3 c4 sq w0 E cl ls gv B L A m c l W) (e:∀ k,ls k = ls' k):Hi19 w S A0 A1 A2 A3 A4 n0 n1 n2 n3 n4 c0 c1 c2 c3 c4 sq w0 E cl ls' gv B L A m c l W:=(funext e:ls = ls') ▸ h
theorem Hi19.end_ {w:World} {S:Sv14} {A0 A1 A2 A3 A4:Option Addr} {n0 n1 n2 n3 n4 c0 c1 c2 c3 c4:Nat} {sq:Int} {w0:World} {E:Nat} {cl:Nat->List Value} {ls:Nat->List Nat} {gv:Nat} {B:Array Value} {L:Nat} {A:Option Addr} {m c:Nat} {l:List Nat} {W:World} (h:Hi19 w S A0 A1 A2 A3 A4 n0 n1 n2 n3 n4 c0 c1 c2 c3 c4 sq w0 E cl ls gv B L A m c l W):Hw19 w S A0 A1 A2 A3 A4 n0 n1 n2 n3 n4 c0 c1 c2 c3 c4 sq w0 E cl ls W:=by
 obtain ⟨h1,h2,⟨Af,cf,h3,_⟩,h4,_⟩:=h;exact ⟨h1,h2,⟨Af,cf,h3⟩,h4⟩
def Hj19 (w:World) (S:Sv14) (A0 A1 A2 A3 A4:Option Addr) (n0 n1 n2 n3 n4 c0 c1 c2 c3 c4:Nat) (sq:Int) (gv:Nat) (B:Array Value) (W:World):Prop:=By16 w S A0 A1 A2 A3 A4 n0 n1 n2 n3 n4 c0 c1 c2 c3 c4 sq W/\Blk W gv 46 B
theorem Hi19.push {w:World} {S:Sv14} {A0 A1 A2 A3 A4:Option Addr} {n0 n1 n2 n3 n4 c0 c1 c2 c3 c4:Nat} {sq:Int} {w0:World} {E:Nat} {cl:Nat->List Value} {ls:Nat->List Nat} {gv:Nat} {L:Nat} {A:Option Addr} {m c:Nat} {l:List Nat} {W:World} {B1 B2:Option Addr} {m1 d1 m2 d2:Nat} (h:Hi19 w S A0 A1 A2 A3 A4 n0 n1 n2 n3 n4 c0 c1 c2 c3 c4 sq w0 E cl ls gv #[.slice B1 m1 d1,.slice B2 m2 d2] L A m c l W)
  {f x:Nat} (hf:f < n2) (hv:w0.heap.size<=gv) (hw0:w.heap.size < w0.heap.size) (hc:cl x = [.slice B1 m1 d1,.slice B2 m2 d2]) (hm:(ls f).length<=5000) :
  ∃ F s k A' c' W3,W.cell? ⟨E,f,none⟩ = some (.slice F k s)/\(W.alloc (.cells #[.slice B1 m1 d1,.slice B2 m2 d2] 46)).cell? ⟨E,f,none⟩ = some (.slice F k s) /\
   (Builtin.append_ #[40,40] 40 #[.slice F k s,.slice (some ⟨W.heap.size,0,none⟩) 1 1]).run Tryz.prog (W.alloc (.cells #[.slice B1 m1 d1,.slice B2 m2 d2] 46)) = .ok (.slice A' (k + 1) c') W3 /\
   W3.cell? ⟨E,f,none⟩ = some (.slice F k s)/\W3.frozen? ⟨E,f,none⟩ = false/\Hj19 w S A0 A1 A2 A3 A4 n0 n1 n2 n3 n4 c0 c1 c2 c3 c4 sq gv #[.slice B1 m1 d1,.slice B2 m2 d2] (W.alloc (.cells #[.slice B1 m1 d1,.slice B2 m2 d2] 46))/\Hj19 w S A0 A1 A2 A3 A4 n0 n1 n2 n3 n4 c0 c1 c2 c3 c4 sq gv #[.slice B1 m1 d1,.slice B2 m2 d2] W3/\Hj19 w S A0 A1 A2 A3 A4 n0 n1 n2 n3 n4 c0 c1 c2 c3 c4 sq gv #[.slice B1 m1 d1,.slice B2 m2 d2] (W3.setCell ⟨E,f,none⟩ (.slice A' (k + 1) c')) /\
   Hi19 w S A0 A1 A2 A3 A4 n0 n1 n2 n3 n4 c0 c1 c2 c3 c4 sq w0 E cl (upd ls f (ls f ++ [x])) gv #[.slice B1 m1 d1,.slice B2 m2 d2] L A m c l (W3.setCell ⟨E,f,none⟩ (.slice A' (k + 1) c')):=by
 obtain ⟨h1,h2,⟨Af,cf,h3,h8⟩,h4,h5,h6⟩:=h;have hba:=b1' W (.cells #[.slice B1 m1 d1,.slice B2 m2 d2] 46);obtain ⟨r0,_⟩:=h3.cell hf;obtain ⟨A',c',W3,hrun,e1,e2,hB,hg,hbk,hnew,hd⟩:=h3.push hf h2.size hc hm;have hlow:Below (w.heap.size + 1) W W3:=hB.mono (by omega);obtain ⟨es,k1,k2,k3⟩:=h3.ends
 have hlowE:Below (w.heap.size + 1) W (W3.setCell ⟨E,f,none⟩ (.slice A' ((ls f).length + 1) c')):=hlow.setCell h4 _;have hvW:Blk W3 gv 46 #[.slice B1 m1 d1,.slice B2 m2 d2]:=(h5.below hba h5.lt).grown hg (fun e => h8 f hf e.symm);have hne:gv≠E:=by have:=h3.le; omega
 have hi1:=own7_keep h6 hba
 have hi3:W3.ownsRow L 3 1 (.slice A m c) m (ints l):=own12_far hi1 hg (fun r hr => by
  obtain ⟨cur,hcur⟩:=hbk r hr
  exact own7_ne hi1 (hcur.below hba hcur.lt) (by decide))
 have hE3:Blk W3 E 40 es:=(k1.below hba k1.lt).grown hg (fun e => by
  obtain ⟨cur,hcur⟩:=hbk E e.symm
  exact blk_ne12 k1 hcur (by decide) rfl)
 refine ⟨Af f,cf f,_,A',c',W3,r0,(hba.cell (p:=⟨E,f,none⟩) (World.block_lt_of_cell? _ _ r0)).trans r0,hrun,e1,e2,⟨h1.step hba,h5.below hba h5.lt⟩,⟨h1.low hlow,hvW⟩,⟨h1.low hlowE,hvW.far hne _⟩,h1.low hlowE,but19_set (but19 h2 hB) _,⟨_,_,hd,fun k hk => ?_⟩,h4,hvW.far hne _,ownsRow_setCell_other hi3 (own7_ne hi3 hE3 (by decide)) _⟩;by_cases e:k = f
 ·
  subst e;rw [upd_at];intro h9;rcases hnew gv h9 with h9 | h9
  · exact h8 k hk h9
  ·
   have:=h5.lt;omega
 ·
  rw [upd_far _ _ e];exact h8 k hk
def RetHd19 (w:World) (n:Nat) (x:Nat->Rat) (e:Ending) (w':World):Prop:=∃ E,e = .returned (.slice (some ⟨E,0,none⟩) n n)/\w.heap.size<=E/\E < w'.heap.size/\Hs19 w' w.heap.size E n x/\Below w.heap.size w w'
theorem Hs19.lower {W:World} {lo lo' E n:Nat} {x:Nat->Rat} (h:Hs19 W lo E n x) (hl:lo'<=lo):Hs19 W lo' E n x:=fun k hk => by
 obtain ⟨A,L,m,c,h1,h2,h3,h4,h5,h6⟩:=h k hk;exact ⟨A,L,m,c,h1,h2,h3,h4,h5,fun p hp => Nat.le_trans hl (h6 p hp)⟩
theorem Wo18.sm19 {S:Sv14} {wC wT:Nat->Rat} (h:Wo18 S wC wT) (hf:Fine14 S) (i:Nat):Sm18 (qr18 (th18 S wT i)):=by
 have h96:S.T.length<=96:=hf.2.2.1.2.1.1;rw [th18_list];exact (h.fits hf).2.2 _ _ (by have:=tks15_len S (fnd15 1 (i:Int)) S.T.length; omega)
theorem handed19 (v:Value) (S:Sv14) (wC wT:Nat->Rat) (w:World) (h:St14 w v S) (hf:Fine14 S) (hw:Wo18 S wC wT) :
  Calls Tryz.prog 34 #[v] w (RetHd19 w S.H.length (fun i => car19 S (th18 S wT) i)):=by
 obtain ⟨A0,A1,A2,A3,A4,n0,n1,n2,n3,n4,c0,c1,c2,c3,c4,sq,rfl,hs⟩:=h;have HP:Hid (RetHd19 w S.H.length (fun i => car19 S (th18 S wT) i) = fun e w' => ∃ E,e = .returned (.slice (some ⟨E,0,none⟩) n2 n2)/\w.heap.size<=E/\E < w'.heap.size/\Hs19 w' w.heap.size E n2 (fun i => car19 S (th18 S wT) i)/\Below w.heap.size w w'):=qz (by unfold RetHd19; rw [hs.l2])
 have hm2:=hs.m2;have h32:n2<=32:=by have:=hf.2.2.1.2.2.1.1; have:=hs.l2; omega
 have hmk:=make_rows19 n2 (by omega);have hx0:By16 w S A0 A1 A2 A3 A4 n0 n1 n2 n3 n4 c0 c1 c2 c3 c4 sq _:=⟨Bx14.new hs,hs⟩
 obtain ⟨W1,hW1⟩:=exq (w.alloc (.cells #[.slice A0 n0 c0,.slice A1 n1 c1,.slice A2 n2 c2,.slice A3 n3 c3,.slice A4 n4 c4,.int .i64 sq] 28));have hz1:W1.heap.size = w.heap.size + 1:=by rw [<- hW1]; simp
 rw [hW1] at hx0;have hba:=b1' W1 (.cells (madeCells #[.slice none 0 0] n2) 40);have hE2:=made13 W1 40 n2 (.slice none 0 0);have hx2:=hx0.step hba;obtain ⟨W2,hW2⟩:=exq (W1.alloc (.cells (madeCells #[.slice none 0 0] n2) 40));obtain ⟨E,hEd⟩:=exq W1.heap.size;rw [hW2] at hE2 hx2;rw [hEd] at hE2;have hEe:w.heap.size + 1<=E:=by omega
 have HX2:=qz hx2;have HE2:=qz hE2;have x2:=hx0.b.x.cell 2;have HTH:=qz (fun W (h:Bx14 w S A0 A1 A2 A3 A4 n0 n1 n2 n3 n4 c0 c1 c2 c3 c4 sq W) => threads18 (.agg #[.slice A0 n0 c0,.slice A1 n1 c1,.slice A2 n2 c2,.slice A3 n3 c3,.slice A4 n4 c4,.int .i64 sq]) S wC wT W h.st hf hw)
 have HTL:=qz (fun (k:Nat) W (h:Bx14 w S A0 A1 A2 A3 A4 n0 n1 n2 n3 n4 c0 c1 c2 c3 c4 sq W) => tail16o (.agg #[.slice A0 n0 c0,.slice A1 n1 c1,.slice A2 n2 c2,.slice A3 n3 c3,.slice A4 n4 c4,.int .i64 sq]) S (k:Int) (tlc19 S k) W h.st hf (tlc19_is hf k));have HL2:=qz hs.l2;have HF:=qz hf;have HWO:=qz hw;clear hs hf hw hx0 hba hE2 hx2 hz1
 go_enter Tryz.func34,Tryz.ntmps34;go_upto_region 2 with (fail)
 clear hmk
 try rw [hW1]
 try rw [hW2]
 try rw [hEd]
 clear hW1 hW2 hEd x2;obtain ⟨x0,x1,x2,x3,x4,x5⟩:=ce6 HX2.out.b.x;go_wp2_with fail;refine (HTH.out _ HX2.out.b).mono ?_;rintro e w0 ⟨g,rfl,hg,hr,hb⟩;rw [HL2.out] at hr ⊢;have hE0:=HE2.out.step hb
 have hgE:g≠E:=by
  obtain ⟨es,h1,_⟩:=hE0;exact qr18_blk hr h1 (by decide)
 have hE0s:E < w0.heap.size:=by
  obtain ⟨es,h1,_⟩:=hE0;exact h1.lt
 have HW0:Hid (Hw19 w S A0 A1 A2 A3 A4 n0 n1 n2 n3 n4 c0 c1 c2 c3 c4 sq w0 E (cq19 w0 g) (hd19 S 0) w0):=qz ⟨HX2.out.step hb,World.grownBy.refl _ _,⟨_,_,(Hd19.start hE0 hE0s).congr (fun k => (hd19_zero S k).symm)⟩,hEe⟩;have HQ:=qz hr;have HE0:=qz hE0;have HGE:=qz hgE;have HS0:Hid (w.heap.size < w0.heap.size):=qz (by omega)
 clear hr hb hE0 hgE hg hE0s HX2 HE2 HTH x0 x1 x2 x3 x4 x5;go_wp2_with fail;go_loopw [15] (fun i wr => ∃ k:Nat,i = .int .i64 (k:Int)/\k<=n2/\Hid (Hw19 w S A0 A1 A2 A3 A4 n0 n1 n2 n3 n4 c0 c1 c2 c3 c4 sq w0 E (cq19 w0 g) (hd19 S k) wr)) (fun i _ => n2 - (intOf i).toNat)
 case atStart => exact ⟨0,rfl,by omega,HW0⟩
 case round =>
  clear HW0;obtain ⟨k,rfl,hk,HW⟩:=hrel;by_cases hkn:k < n2
  ·
   have i0:(0:Int)<=(k:Int):=by omega
   have i1:(k:Int) < (n2:Int):=by omega
   obtain ⟨B1,m1,d1,B2,m2,d2,hcq,e1,e2,_⟩:=cq19_at HQ.out hkn;have z1:wr.cell? ⟨g,k * 2,none⟩ = some (.slice B1 m1 d1):=HW.out.z.cell e1 (by intro e; injection e with e; exact HGE.out e);have z2:wr.cell? ⟨g,k * 2 + 1,none⟩ = some (.slice B2 m2 d2):=HW.out.z.cell e2 (by intro e; injection e with e; exact HGE.out e)
   have hv:=Blk.new wr 46 #[.slice B1 m1 d1,.slice B2 m2 d2];have hba:=b1' wr (.cells #[.slice B1 m1 d1,.slice B2 m2 d2] 46);have hw1:=HW.out.step hba;have hgv:w0.heap.size<=wr.heap.size:=HW.out.z.size
   have hnv:∃ Af cf,Hd19 (wr.alloc (.cells #[.slice B1 m1 d1,.slice B2 m2 d2] 46)) w0.heap.size E n2 (cq19 w0 g) (hd19 S k) Af cf/\∀ j,j < n2->ob (Af j)≠some wr.heap.size:=by
    obtain ⟨Af,cf,h3⟩:=HW.out.o;refine ⟨Af,cf,h3.step hba,fun j hj e => ?_⟩;have:=((h3.rows j hj).lt _ (by rw [ob_eq]; exact e)).2;omega
   obtain ⟨Wv,hWv⟩:=exq (wr.alloc (.cells #[.slice B1 m1 d1,.slice B2 m2 d2] 46));rw [hWv] at hv hw1 hnv;obtain ⟨gv,hgv0⟩:=exq wr.heap.size;rw [hgv0] at hv hgv hnv;have HV:=qz hv;have HW1:=qz hw1;have HNV:=qz hnv;have HGV:=qz hgv;have HCQ:=qz hcq;have HT1:=qz (HTL.out k);obtain ⟨l,hl⟩:=exq (tlc19 S k);obtain ⟨m,hm⟩:=exq l.length
   have hmb:m<=n2:=by
    have h9:=(tlc19_is HF.out k).len HF.out;rw [hl,hm,HL2.out] at h9;exact h9
   rw [hl] at HT1;have HL:=qz hl;have HM:=qz hm;clear hv hba hw1 hnv hgv hcq e1 e2 hl hm HW;go_upto_region 5 with (fail)
   try rw [hWv]
   try rw [hgv0]
   clear hWv hgv0 z1 z2;obtain ⟨y0,y1,y2,y3,y4,y5⟩:=ce6 HW1.out.b.b.x;go_wp2_with fail;refine (HT1.out _ HW1.out.b.b).mono ?_;rintro e w4 ⟨A,ca,rfl,hr4,hb4⟩;rw [HM.out] at hr4 ⊢
   have HI0:Hid (Hi19 w S A0 A1 A2 A3 A4 n0 n1 n2 n3 n4 c0 c1 c2 c3 c4 sq w0 E (cq19 w0 g) (hl19 S k 0) gv #[.slice B1 m1 d1,.slice B2 m2 d2] (Wv.heap.size + 1) A m ca l w4):=qz (by
    obtain ⟨Af,cf,h3,h4⟩:=HNV.out;have h1:=HW1.out.step hb4
    exact ⟨h1.b,h1.z,⟨Af,cf,(h3.step hb4).congr (fun j => (hl19_zero S k j).symm),h4⟩,h1.e,HV.out.below hb4 HV.out.lt,hr4⟩)
   clear hr4 hb4 HT1 HW1 HV HNV y0 y1 y2 y3 y4 y5;go_wp2_with fail;go_loopw [24] (fun i wr => ∃ t:Nat,i = .int .i64 (t:Int)/\t<=m/\Hid (Hi19 w S A0 A1 A2 A3 A4 n0 n1 n2 n3 n4 c0 c1 c2 c3 c4 sq w0 E (cq19 w0 g) (hl19 S k t) gv #[.slice B1 m1 d1,.slice B2 m2 d2] (Wv.heap.size + 1) A m ca l wr)) (fun i _ => m - (intOf i).toNat)
   case atStart => exact ⟨0,rfl,by omega,HI0⟩
   case round =>
    clear HI0;obtain ⟨t,rfl,ht,HI⟩:=hrel;by_cases htm:t < m
    ·
     have htl:t < l.length:=by rw [HM.out]; exact htm
     obtain ⟨ga,oa,hA,hab,q0⟩:=(rd15_own HI.out.r HM.out).at_ htl;obtain ⟨f,hfj⟩:=exq (nth l t);have hfl:f∈l:=by rw [<- hfj,nth_in htl]; exact List.getElem_mem _
     have hfn:f < n2:=by
      rw [<- HL.out] at hfl;have:=tlc19_lt HF.out hfl;have:=HL2.out;omega
     rw [hfj] at q0;subst hA;have hnx:=fun j => hl19_next (S:=S) HF.out (i:=k) (t:=t) (by rw [HL.out]; exact htl) j
     rw [HL.out,hfj] at hnx;have HNX:=qz hnx;have t0:(0:Int)<=(t:Int):=by omega
     have t1:(t:Int) < (m:Int):=by omega
     have f0:(0:Int)<=(f:Int):=by omega
     have f1:(f:Int) < (n2:Int):=by omega
     clear hnx hfl htl hab hfj;go_upto_region 8 with (fail)
     have hir:=HI.out.step (Below.refl wr.heap.size wr).drew;obtain ⟨wn,hwn⟩:=exq wr.drew;rw [hwn] at hir;obtain ⟨F,s,kk,A',c',W3,r0,r1,hap,r3,rf3,j1,j3,j4,hi⟩:=hir.push hfn HGV.out HS0.out HCQ.out (by have:=hl19_len S k t f; omega)
     have HJ0:Hid (Hj19 w S A0 A1 A2 A3 A4 n0 n1 n2 n3 n4 c0 c1 c2 c3 c4 sq gv #[.slice B1 m1 d1,.slice B2 m2 d2] wn):=qz ⟨hir.b,hir.v⟩;have HC0:=qz r0;have HC1:=qz r1;have HC3:=qz r3;have HF3:=qz rf3;have HAP:=qz hap;have HJ1:=qz j1;have HJ3:=qz j3;have HI4:=qz (hi.congr HNX.out);obtain ⟨W4,hW4⟩:=exq (W3.setCell ⟨E,f,none⟩ (.slice A' (kk + 1) c'))
     rw [hW4] at j4 HI4;have HJ4:=qz j4;clear hir r0 r1 hap r3 rf3 j1 j3 j4 hi q0 HI;refine wp_region_held_drew (S:=Hj19 w S A0 A1 A2 A3 A4 n0 n1 n2 n3 n4 c0 c1 c2 c3 c4 sq gv #[.slice B1 m1 d1,.slice B2 m2 d2]) (by kernel_rfl) (by rw [hwn]; exact HJ0.out) (fun hHeld => ?_);rw [hwn] at hHeld ⊢;have HBS:=HJ0;refine tkq 0 ?_;refine tkq 1 ?_
     refine tkq 2 ?_;refine tkq 3 ?_;refine tkq 4 ?_;refine tk 6 (v:=?_) (fun W hS => ?_) ?_;rotate_left
     ·
      try dsimp only at hS
      have z0:=hS.2.cell 0;have z1:=hS.2.cell 1;go_simp
      try with_reducible rfl
     try simp only [Act.put,pt1,pt2,pt3]
     refine wpAnyH_ready (rs:=[5,7]) (by kernel_rfl) (by simp) (AllReadyH.cons (op_of rfl) (fun K hK => ?_) (AllReadyH.cons (op_of rfl) (fun K hK => ?_) AllReadyH.nil))
     ·
      skip;have r0:=HC0.out;go_simp;refine koq hK HBS.out (fun hHeld=>?_);clear hK K;refine rdy 7 (fun K hK => ?_);have HBS:=HJ1;go_simp;refine koq hK HBS.out (fun hHeld=>?_);clear hK K;refine rdy 8 (fun K hK => ?_);have hap:=HAP.out;have HBS:=HJ3;refine step_append19 40 _ W3 (by rfl) _ _ (by rfl) (by rfl) _ _ _ (by rfl) (by rfl) hap ?_;clear hap
      refine koq hK HBS.out (fun hHeld=>?_);clear hK K;refine tkq 9 ?_;refine rdy 10 (fun K hK => ?_);have r3:=HC3.out;have rf3:=HF3.out;have HBS:=HJ4;go_simp;refine koq hK HBS.out (fun hHeld=>?_);clear hK K;refine wpAnyH_done (by kernel_rfl) ?_ _;clear hHeld
      try rw [hW4]
      clear HBS HC0 HC1 HC3 HF3 HAP HJ0 HJ1 HJ3 HJ4;go_wp2_with fail;go_roundw
      case rel => exact ⟨t + 1,by go_num,by omega,HI4⟩
      case measure => simp [intOf]; omega
     ·
      skip;have HBS:=HJ1;go_simp;refine koq hK HBS.out (fun hHeld=>?_);clear hK K;refine rdy 5 (fun K hK => ?_);have r1:=HC1.out;go_simp;refine koq hK HBS.out (fun hHeld=>?_);clear hK K;refine rdy 8 (fun K hK => ?_);have hap:=HAP.out;have HBS:=HJ3;refine step_append19 40 _ W3 (by rfl) _ _ (by rfl) (by rfl) _ _ _ (by rfl) (by rfl) hap ?_;clear hap
      refine koq hK HBS.out (fun hHeld=>?_);clear hK K;refine tkq 9 ?_;refine rdy 10 (fun K hK => ?_);have r3:=HC3.out;have rf3:=HF3.out;have HBS:=HJ4;go_simp;refine koq hK HBS.out (fun hHeld=>?_);clear hK K;refine wpAnyH_done (by kernel_rfl) ?_ _;clear hHeld
      try rw [hW4]
      clear HBS HC0 HC1 HC3 HF3 HAP HJ0 HJ1 HJ3 HJ4;go_wp2_with fail;go_roundw
      case rel => exact ⟨t + 1,by go_num,by omega,HI4⟩
      case measure => simp [intOf]; omega
    ·
     obtain rfl:m = t:=by omega
     have t1:¬ (m:Int) < (m:Int):=by omega
     have HN:Hid (Hw19 w S A0 A1 A2 A3 A4 n0 n1 n2 n3 n4 c0 c1 c2 c3 c4 sq w0 E (cq19 w0 g) (hd19 S (k + 1)) wr):=qz (HI.out.end_.congr (fun j => by
      have h:=hl19_end S k j;rw [HL.out,HM.out] at h
      exact h))
     clear HI;go_wp2_with fail;go_roundw
     case rel => exact ⟨k + 1,by go_num,by omega,HN⟩
     case measure => simp [intOf]; omega
  ·
   obtain rfl:n2 = k:=by omega
   have i1:¬ (n2:Int) < (n2:Int):=by omega
   have HFIN:Hid (E < wr.heap.size/\Hs19 wr w.heap.size E n2 (fun i => car19 S (th18 S wT) i)):=qz (by
    obtain ⟨Af,cf,h3⟩:=HW.out.o;obtain ⟨_,hft,_⟩:=HWO.out.fits HF.out;have hsq:=HWO.out.car_sq HF.out
    refine ⟨Nat.lt_of_lt_of_le h3.le HW.out.z.size,(h3.sums HW.out.z HQ.out HE0.out (y:=th18 S wT) (fun _ _ => rfl) hsq.1 (fun j => HWO.out.sm19 HF.out j) (fun j hj => ⟨by have:=hd19_len S n2 j; omega,fun t ht => hd19_lt ht⟩) (fun j hj => ?_)).lower (by have:=HS0.out; omega)⟩;have h9:=hd19_sum HF.out (wT:=wT) j;rw [HL2.out] at h9
    exact h9)
   go_wp2_with fail;go_ret;rw [HP.out];exact ⟨E,rfl,by omega,HFIN.out.1,HFIN.out.2,HW.out.b.b.b⟩
end
end Go.Proofs.YtkdmnlihpebbkaaGreat
