import Derived.Test.YtkdmnlihpebbkaaGreatCT21
set_option linter.all false
set_option maxHeartbeats 16000000
namespace Go.Proofs.YtkdmnlihpebbkaaGreat
section
open Go.RowKit Go.Shelf
attribute [local go_sem] Oper.semAt_some
set_option maxRecDepth 100000
theorem By16.kept17 {w:World} {S:Sv14} {A0 A1 A2 A3 A4:Option Addr} {n0 n1 n2 n3 n4 c0 c1 c2 c3 c4:Nat} {sq:Int} {X Y:World} {row:Option Nat} (h:By16 w S A0 A1 A2 A3 A4 n0 n1 n2 n3 n4 c0 c1 c2 c3 c4 sq X) (hg:X.grownBy Y row) {C:Nat} (hC:w.heap.size<=C)
  (hr:∀ r,row = some r->C<=r/\∃ o:Obj,X.heap[r]? = some o/\o.isCells = false):By16 w S A0 A1 A2 A3 A4 n0 n1 n2 n3 n4 c0 c1 c2 c3 c4 sq Y:=by
 have hB:Below w.heap.size w Y:=h.b.b.grown hg h.b.b.size (fun r e => by have:=(hr r e).1; omega);exact ⟨⟨hB,blk11_kept h.b.x hg (fun r e => (hr r e).2),h.s.step hB⟩,h.s⟩
theorem bb17_kept {w w':World} {g n:Nat} {M:Nat->Bool} {row:Option Nat} (h:Bb13 w g n M) (hg:w.grownBy w' row) (hr:∀ r,row = some r->∃ o:Obj,w.heap[r]? = some o/\o.isCells = false):Bb13 w' g n M:=by
 obtain ⟨cs,h1,h2⟩:=h;exact ⟨cs,blk11_kept h1 hg hr,h2⟩
theorem ib17_kept {w w':World} {g n:Nat} {M:Nat->Nat} {row:Option Nat} (h:Ib13 w g n M) (hg:w.grownBy w' row) (hr:∀ r,row = some r->∃ o:Obj,w.heap[r]? = some o/\o.isCells = false):Ib13 w' g n M:=by
 obtain ⟨cs,h1,h2⟩:=h;exact ⟨cs,blk11_kept h1 hg hr,h2⟩
theorem ib17_blk {w:World} {g n h:Nat} {t:TypeId} {M:Nat->Nat} {cs:Array Value} (q:Ib13 w g n M) (hb:Blk w h t cs) (ht:3≠t):g≠h:=by
 obtain ⟨es,h1,_⟩:=q;exact blk_ne12 h1 hb ht
theorem bb17_blk {w:World} {g n h:Nat} {t:TypeId} {M:Nat->Bool} {cs:Array Value} (q:Bb13 w g n M) (hb:Blk w h t cs) (ht:4≠t):g≠h:=by
 obtain ⟨es,h1,_⟩:=q;exact blk_ne12 h1 hb ht
theorem bb17_ib {w:World} {g h n m:Nat} {M:Nat->Bool} {N:Nat->Nat} (q:Bb13 w g n M) (r:Ib13 w h m N):g≠h:=by
 obtain ⟨es,h1,_⟩:=r;exact bb17_blk q h1 (by decide)
theorem made_i17 (W:World) (n:Nat):Ib13 (W.alloc (.cells (madeCells #[.int .i64 0] n) 3)) W.heap.size n (fun _ => 0):=by
 obtain ⟨cs,h1,h2,h3⟩:=made13 W 3 n (.int .i64 0);exact ⟨cs,h1,by omega,h3⟩
theorem made_b17 (W:World) (n:Nat):Bb13 (W.alloc (.cells (madeCells #[.bool false] n) 4)) W.heap.size n (fun _ => false):=made13 W 4 n (.bool false)
structure Su17 (w:World) (S:Sv14) (A0 A1 A2 A3 A4:Option Addr) (n0 n1 n2 n3 n4 c0 c1 c2 c3 c4:Nat) (sq:Int) (gb g1 g2:Nat) (M:Nat->Bool) (Am:Nat->Nat) (W:World):Prop where
 b:By16 w S A0 A1 A2 A3 A4 n0 n1 n2 n3 n4 c0 c1 c2 c3 c4 sq W
 o:Blk W (w.heap.size + 1) 122 #[.slice none 0 0,.slice none 0 0]
 v:Blk W gb 122 #[.slice (some ⟨g1,0,none⟩) n1 n1,.slice (some ⟨g2,0,none⟩) n0 n0]
 r1:Bb13 W g1 n1 M
 r2:Ib13 W g2 n0 Am
 fb:w.heap.size + 2<=gb
 f1:w.heap.size + 2<=g1
 f2:w.heap.size + 2<=g2
theorem Su17.step {w:World} {S:Sv14} {A0 A1 A2 A3 A4:Option Addr} {n0 n1 n2 n3 n4 c0 c1 c2 c3 c4:Nat} {sq:Int} {gb g1 g2:Nat} {M:Nat->Bool} {Am:Nat->Nat} {W W':World} (h:Su17 w S A0 A1 A2 A3 A4 n0 n1 n2 n3 n4 c0 c1 c2 c3 c4 sq gb g1 g2 M Am W) (hb:Below W.heap.size W W'):Su17 w S A0 A1 A2 A3 A4 n0 n1 n2 n3 n4 c0 c1 c2 c3 c4 sq gb g1 g2 M Am W' :=
 ⟨h.b.step hb,h.o.below hb h.o.lt,h.v.below hb h.v.lt,h.r1.step hb,h.r2.below hb h.r2.lt,h.fb,h.f1,h.f2⟩
theorem Su17.ne {w:World} {S:Sv14} {A0 A1 A2 A3 A4:Option Addr} {n0 n1 n2 n3 n4 c0 c1 c2 c3 c4:Nat} {sq:Int} {gb g1 g2:Nat} {M:Nat->Bool} {Am:Nat->Nat} {W:World} (h:Su17 w S A0 A1 A2 A3 A4 n0 n1 n2 n3 n4 c0 c1 c2 c3 c4 sq gb g1 g2 M Am W):g1≠g2/\g1≠gb/\g2≠gb:=⟨bb17_ib h.r1 h.r2,bb17_blk h.r1 h.v (by decide),ib17_blk h.r2 h.v (by decide)⟩
theorem Su17.kept {w:World} {S:Sv14} {A0 A1 A2 A3 A4:Option Addr} {n0 n1 n2 n3 n4 c0 c1 c2 c3 c4:Nat} {sq:Int} {gb g1 g2:Nat} {M:Nat->Bool} {Am:Nat->Nat} {X Y:World} {row:Option Nat} (h:Su17 w S A0 A1 A2 A3 A4 n0 n1 n2 n3 n4 c0 c1 c2 c3 c4 sq gb g1 g2 M Am X) (hg:X.grownBy Y row) {C:Nat} (hC:w.heap.size<=C)
  (hr:∀ r,row = some r->C<=r/\∃ o:Obj,X.heap[r]? = some o/\o.isCells = false):Su17 w S A0 A1 A2 A3 A4 n0 n1 n2 n3 n4 c0 c1 c2 c3 c4 sq gb g1 g2 M Am Y:=by
 have hr2:∀ r,row = some r->∃ o:Obj,X.heap[r]? = some o/\o.isCells = false:=fun r e => (hr r e).2
 exact ⟨h.b.kept17 hg hC hr,blk11_kept h.o hg hr2,blk11_kept h.v hg hr2,bb17_kept h.r1 hg hr2,ib17_kept h.r2 hg hr2,h.fb,h.f1,h.f2⟩
theorem Su17.turn {w:World} {S:Sv14} {A0 A1 A2 A3 A4:Option Addr} {n0 n1 n2 n3 n4 c0 c1 c2 c3 c4:Nat} {sq:Int} {gb g1 g2:Nat} {M M':Nat->Bool} {Am Am':Nat->Nat} {W W':World} (h:Su17 w S A0 A1 A2 A3 A4 n0 n1 n2 n3 n4 c0 c1 c2 c3 c4 sq gb g1 g2 M Am W) (hk:Bk13 w.heap.size g1 (some g2) W W') (h1:Bb13 W' g1 n1 M') (h2:Ib13 W' g2 n0 Am'):Su17 w S A0 A1 A2 A3 A4 n0 n1 n2 n3 n4 c0 c1 c2 c3 c4 sq gb g1 g2 M' Am' W':=by
 have hne:=h.ne;have hf1:=h.f1;have hf2:=h.f2;have hB:Below w.heap.size w W':=h.b.b.b.trans hk.below;exact ⟨⟨⟨hB,hk.blk h.b.b.x (by omega) (by simp; omega),h.b.s.step hB⟩,h.b.s⟩,hk.blk h.o (by omega) (by simp; omega),hk.blk h.v (fun e => hne.2.1 e.symm) (by simp; exact fun e => hne.2.2 e.symm),h1,h2,h.fb,h.f1,h.f2⟩
def RetSu17 (w:World) (S:Sv14) (e:Ending) (w':World):Prop:=∃ g1 g2,e = .returned (.agg #[.slice (some ⟨g1,0,none⟩) S.T.length S.T.length,.slice (some ⟨g2,0,none⟩) S.C.length S.C.length])/\w.heap.size<=g1/\w.heap.size<=g2/\Bb13 w' g1 S.T.length (cntb17 S)/\Ib13 w' g2 S.C.length (fun x => amn17 S ((x:Nat):Int))/\Below w.heap.size w w'
def regionOf17:Code->Nat->Option (Array Oper)
 | .region id ops _,n => if id = n then some ops else none
 | .seq x y,n => (regionOf17 x n).orElse fun _ => regionOf17 y n
 | .cond _ x y,n => (regionOf17 x n).orElse fun _ => regionOf17 y n
 | .block _ x,n => regionOf17 x n
 | .loop x,n => regionOf17 x n
 | _,_ => none
def ops17bs:{ o:Array Oper // (match Go.Func.body Tryz.f99 with | some c => regionOf17 c 1 | none => none) = some o }:=⟨_,rfl⟩
def ops17b:Array Oper:=ops17bs.1
section
variable {t0 t1 t2 t3 t4 t5 t6 t7 t8 t9 t10 t11 t12 t13 t14 t15 t16 t17 t18 t19 t20 t21 t22 t23 t24:Value}
variable {Q:Exit->Act->World->Prop}
theorem made17 {w wc:World} {S:Sv14} {A0 A1 A2 A3 A4:Option Addr} {n0 n1 n2 n3 n4 c0 c1 c2 c3 c4:Nat} {sq:Int} (hm0:n0<=1000) (hm1:n1<=1000) (hb:By16 w S A0 A1 A2 A3 A4 n0 n1 n2 n3 n4 c0 c1 c2 c3 c4 sq wc) (ho:Blk wc (w.heap.size + 1) 122 #[.slice none 0 0,.slice none 0 0])
  (hP:∀ c a d v w,Q (.panic c) (Act.put a (some d) v) w->Q (.panic c) a w)
  (hQ:∀ (x6 x7 x8 x9 x10 x11 x12 x13 x14:Value) (wn:World) (gb g1 g2:Nat),Su17 w S A0 A1 A2 A3 A4 n0 n1 n2 n3 n4 c0 c1 c2 c3 c4 sq gb g1 g2 (fun _ => false) (fun _ => 0) wn->Q .normal { tmps:=#[(.agg #[.slice A0 n0 c0,.slice A1 n1 c1,.slice A2 n2 c2,.slice A3 n3 c3,.slice A4 n4 c4,.int .i64 sq]),.pointer (some ⟨w.heap.size,0,none⟩),.pointer (some ⟨w.heap.size + 1,0,none⟩),.pointer (some ⟨gb,0,none⟩),t4,t5,x6,x7,x8,x9,x10,x11,x12,x13,x14,t15,t16,t17,t18,t19,t20,t21,t22,t23,t24],defers:=[] } wn) :
  (Code.region 1 ops17b true).wp Tryz.prog Q { tmps:=#[(.agg #[.slice A0 n0 c0,.slice A1 n1 c1,.slice A2 n2 c2,.slice A3 n3 c3,.slice A4 n4 c4,.int .i64 sq]),.pointer (some ⟨w.heap.size,0,none⟩),.pointer (some ⟨w.heap.size + 1,0,none⟩),t3,t4,t5,t6,t7,t8,t9,t10,t11,t12,t13,t14,t15,t16,t17,t18,t19,t20,t21,t22,t23,t24],defers:=[] } wc:=by
 have hmk1:=make_bools13 n1 (by omega);have hmk2:=make_ints13 n0 (by omega);have HXN:=qz (hb.step (Below.refl _ _).drew);have HR:=qz (ho.below (Below.refl wc.heap.size wc).drew ho.lt);clear hb ho hm0 hm1;refine wp_region_held_drew (S:=By16 w S A0 A1 A2 A3 A4 n0 n1 n2 n3 n4 c0 c1 c2 c3 c4 sq) (by kernel_rfl) HXN.out (fun hHeld => ?_)
 change wpAnyH _ _ ops17b _ _ 11 #[false,false,false,false,false,false,false,false,false,false,false] _ _
 obtain ⟨wn,hwn⟩:=exq wc.drew;rw [hwn] at HXN HR hHeld;rw [hwn];clear hwn;have HBS:=HXN;refine tkpq hP 0 ?_;refine tkp hP 1 (v:=?_) (fun W hS => ?_) ?_;rotate_left
 ·
  try dsimp only at hS
  have z0:=hS.b.x.cell 1;go_simp
  try with_reducible rfl
 try simp only [Act.put,pt1,pt2,pt3]
 refine tkpq hP 2 ?_;refine tkpq hP 4 ?_;refine tkp hP 5 (v:=?_) (fun W hS => ?_) ?_;rotate_left
 ·
  try dsimp only at hS
  have z0:=hS.b.x.cell 0;go_simp
  try with_reducible rfl
 try simp only [Act.put,pt1,pt2,pt3]
 refine tkpq hP 6 ?_
 refine memo (fun a G => ∀ (wn:World) (g1 g2 gb:Nat),(By16 w S A0 A1 A2 A3 A4 n0 n1 n2 n3 n4 c0 c1 c2 c3 c4 sq wn)->(Blk wn (w.heap.size + 1) 122 #[.slice none 0 0,.slice none 0 0])->(Bb13 wn g1 n1 (fun _ => false))->(w.heap.size + 2<=g1)->(Ib13 wn g2 n0 (fun _ => 0))->(w.heap.size + 2<=g2)->(Blk wn gb 122 #[.slice (some ⟨g1,0,none⟩) n1 n1,.slice (some ⟨g2,0,none⟩) n0 n0])->(w.heap.size + 2<=gb)->G ((((a.put (some 9) (.slice (some ⟨g1,0,none⟩) n1 n1)).put (some 13) (.slice (some ⟨g2,0,none⟩) n0 n0)).put (some 3) (.pointer (some ⟨gb,0,none⟩))).put (some 14) (.agg #[.slice (some ⟨g1,0,none⟩) n1 n1,.slice (some ⟨g2,0,none⟩) n0 n0])) wn) 0 #[true,true,true,true,true,true,true,true,true,true,true] ?_ ?_
 ·
  try simp only [Act.put,pt1,pt2,pt3]
  intro wn g1 g2 gb HBS HR HM1 HFg1 HM2 HFg2 HV HFgb;have HBS:=qz HBS;have HR:=qz HR;have HM1:=qz HM1;have HFg1:=qz HFg1;have HM2:=qz HM2;have HFg2:=qz HFg2;have HV:=qz HV;have HFgb:=qz HFgb;refine wpAnyH_done (by kernel_rfl) ?_ _;exact hQ _ _ _ _ _ _ _ _ _ _ gb g1 g2 ⟨HBS.out,HR.out,HV.out,HM1.out,HM2.out,HFgb.out,HFg1.out,HFg2.out⟩
 intro key
 (try dsimp only [Act.put] at key); try simp only [pt1,pt2,pt3] at key
 have K_3_7_9_10:=qz key;clear key
 refine memo (fun a G => ∀ (wn:World) (g1 g2 gb:Nat),(By16 w S A0 A1 A2 A3 A4 n0 n1 n2 n3 n4 c0 c1 c2 c3 c4 sq wn)->(Blk wn (w.heap.size + 1) 122 #[.slice none 0 0,.slice none 0 0])->(Bb13 wn g1 n1 (fun _ => false))->(w.heap.size + 2<=g1)->(Ib13 wn g2 n0 (fun _ => 0))->(w.heap.size + 2<=g2)->(Blk wn gb 122 #[.slice none 0 0,.slice none 0 0])->(w.heap.size + 2<=gb)->G ((((a.put (some 9) (.slice (some ⟨g1,0,none⟩) n1 n1)).put (some 13) (.slice (some ⟨g2,0,none⟩) n0 n0)).put (some 3) (.pointer (some ⟨gb,0,none⟩))).put (some 14) (.agg #[.slice (some ⟨g1,0,none⟩) n1 n1,.slice (some ⟨g2,0,none⟩) n0 n0])) wn) 1 #[true,true,true,true,true,true,true,true,true,true,false] ?_ ?_
 ·
  try simp only [Act.put,pt1,pt2,pt3]
  intro wn g1 g2 gb HBS HR HM1 HFg1 HM2 HFg2 HV HFgb;have HBS:=qz HBS;have HR:=qz HR;have HM1:=qz HM1;have HFg1:=qz HFg1;have HM2:=qz HM2;have HFg2:=qz HFg2;have HV:=qz HV;have HFgb:=qz HFgb;refine rdy 10 (fun K hK => ?_);have x0:=HV.out.cell 0;have x1:=HV.out.cell 1;have xf0:=HV.out.frozen 0;have xf1:=HV.out.frozen 1;have HBS0:=HBS;go_simp
  obtain ⟨wm,hwm⟩:=exq ((wn.setCell ⟨gb,0,none⟩ (.slice (some ⟨g1,0,none⟩) n1 n1)).setCell ⟨gb,1,none⟩ (.slice (some ⟨g2,0,none⟩) n0 n0));have hn1:=bb17_blk HM1.out HV.out (by decide);have hn2:=ib17_blk HM2.out HV.out (by decide);have HM1:=qz (show Bb13 wm g1 n1 _ by rw [<- hwm]; exact (HM1.out.far17 hn1 _).far17 hn1 _)
  have HM2:=qz (show Ib13 wm g2 n0 _ by rw [<- hwm]; exact (HM2.out.far hn2 _).far hn2 _);have HR:=qz (show Blk wm (w.heap.size + 1) 122 _ by rw [<- hwm]; exact (HR.out.far (by have:=HFgb.out; simp; omega) _).far (by have:=HFgb.out; simp; omega) _)
  have HBS:=qz (HBS0.out.low (W':=wm) (by rw [<- hwm]; exact ((Below.refl _ _).setCell (by have:=HFgb.out; simp; omega) _).setCell (by have:=HFgb.out; simp; omega) _))
  have HV:=qz (show Blk wm gb 122 #[.slice (some ⟨g1,0,none⟩) n1 n1,.slice (some ⟨g2,0,none⟩) n0 n0] by rw [<- hwm]; simpa using (HV.out.set_ 0 (.slice (some ⟨g1,0,none⟩) n1 n1)).set_ 1 (.slice (some ⟨g2,0,none⟩) n0 n0));rw [hwm];clear hwm x0 x1 xf0 xf1 hn1 hn2 HBS0;obtain ⟨wn,hwn⟩:∃ W,W = wm:=⟨_,rfl⟩
  subst hwn;refine koq hK HBS.out (fun hHeld=>?_);clear hK K;exact K_3_7_9_10.out _ _ _ _ HBS.out HR.out HM1.out HFg1.out HM2.out HFg2.out HV.out HFgb.out
 intro key
 (try dsimp only [Act.put] at key); try simp only [pt1,pt2,pt3] at key
 have K_3_7_9:=qz key;clear key
 refine memo (fun a G => ∀ (wn:World) (g1 gb:Nat),(By16 w S A0 A1 A2 A3 A4 n0 n1 n2 n3 n4 c0 c1 c2 c3 c4 sq wn)->(Blk wn (w.heap.size + 1) 122 #[.slice none 0 0,.slice none 0 0])->(Bb13 wn g1 n1 (fun _ => false))->(w.heap.size + 2<=g1)->(Blk wn gb 122 #[.slice none 0 0,.slice none 0 0])->(w.heap.size + 2<=gb)->G ((a.put (some 9) (.slice (some ⟨g1,0,none⟩) n1 n1)).put (some 3) (.pointer (some ⟨gb,0,none⟩))) wn) 3 #[true,true,true,true,true,true,true,false,false,true,false] ?_ ?_
 ·
  try simp only [Act.put,pt1,pt2,pt3]
  intro wn g1 gb HBS HR HM1 HFg1 HV HFgb;have HBS:=qz HBS;have HR:=qz HR;have HM1:=qz HM1;have HFg1:=qz HFg1;have HV:=qz HV;have HFgb:=qz HFgb;refine rdy 7 (fun K hK => ?_);have HBS0:=HBS;have hbz:=b1' wn (.cells (madeCells #[.int .i64 0] n0) 3);have HBS:=qz (HBS0.out.step hbz);have HM2:=qz (made_i17 wn n0)
  have HFg2:Hid (w.heap.size + 2<=wn.heap.size):=qz (by have:=HR.out.lt; omega);have HR:=qz (HR.out.below hbz HR.out.lt);have HM1:=qz (HM1.out.step hbz);have HV:=qz (HV.out.below hbz HV.out.lt);clear hbz HBS0;obtain ⟨g2,hg2⟩:=exq wn.heap.size;obtain ⟨wm,hwm⟩:=exq (wn.alloc (.cells (madeCells #[.int .i64 0] n0) 3));rw [hwm] at HBS HR HM2 HM1 HV
  rw [hg2] at HM2 HFg2;go_simp;clear hg2 hwm;obtain ⟨wn,hwn⟩:∃ W,W = wm:=⟨_,rfl⟩
  subst hwn;refine koq hK HBS.out (fun hHeld=>?_);clear hK K;refine tkpq hP 8 ?_;exact K_3_7_9.out _ _ _ _ HBS.out HR.out HM1.out HFg1.out HM2.out HFg2.out HV.out HFgb.out
 intro key
 (try dsimp only [Act.put] at key); try simp only [pt1,pt2,pt3] at key
 have K_3_9:=qz key;clear key
 refine memo (fun a G => ∀ (wn:World) (g1 g2:Nat),(By16 w S A0 A1 A2 A3 A4 n0 n1 n2 n3 n4 c0 c1 c2 c3 c4 sq wn)->(Blk wn (w.heap.size + 1) 122 #[.slice none 0 0,.slice none 0 0])->(Bb13 wn g1 n1 (fun _ => false))->(w.heap.size + 2<=g1)->(Ib13 wn g2 n0 (fun _ => 0))->(w.heap.size + 2<=g2)->G (((a.put (some 9) (.slice (some ⟨g1,0,none⟩) n1 n1)).put (some 13) (.slice (some ⟨g2,0,none⟩) n0 n0)).put (some 14) (.agg #[.slice (some ⟨g1,0,none⟩) n1 n1,.slice (some ⟨g2,0,none⟩) n0 n0])) wn) 2 #[true,true,true,true,true,true,true,true,true,false,false] ?_ ?_
 ·
  try simp only [Act.put,pt1,pt2,pt3]
  intro wn g1 g2 HBS HR HM1 HFg1 HM2 HFg2;have HBS:=qz HBS;have HR:=qz HR;have HM1:=qz HM1;have HFg1:=qz HFg1;have HM2:=qz HM2;have HFg2:=qz HFg2;refine rdy 9 (fun K hK => ?_);have HBS0:=HBS;have hbz:=b1' wn (.cells #[.slice none 0 0,.slice none 0 0] 122);have HBS:=qz (HBS0.out.step hbz);have HV:=qz (Blk.new wn 122 #[.slice none 0 0,.slice none 0 0])
  have HFgb:Hid (w.heap.size + 2<=wn.heap.size):=qz (by have:=HR.out.lt; omega);have HR:=qz (HR.out.below hbz HR.out.lt);have HM1:=qz (HM1.out.step hbz);have HM2:=qz (HM2.out.below hbz HM2.out.lt);clear hbz HBS0;obtain ⟨gb,hgb⟩:=exq wn.heap.size;obtain ⟨wm,hwm⟩:=exq (wn.alloc (.cells #[.slice none 0 0,.slice none 0 0] 122));rw [hwm] at HBS HR HV HM1 HM2
  rw [hgb] at HV HFgb;go_simp;clear hgb hwm;obtain ⟨wn,hwn⟩:∃ W,W = wm:=⟨_,rfl⟩
  subst hwn;refine koq hK HBS.out (fun hHeld=>?_);clear hK K;exact K_3_7_9.out _ _ _ _ HBS.out HR.out HM1.out HFg1.out HM2.out HFg2.out HV.out HFgb.out
 intro key
 (try dsimp only [Act.put] at key); try simp only [pt1,pt2,pt3] at key
 have K_3_7:=qz key;clear key
 refine memo (fun a G => ∀ (wn:World) (g2 gb:Nat),(By16 w S A0 A1 A2 A3 A4 n0 n1 n2 n3 n4 c0 c1 c2 c3 c4 sq wn)->(Blk wn (w.heap.size + 1) 122 #[.slice none 0 0,.slice none 0 0])->(Ib13 wn g2 n0 (fun _ => 0))->(w.heap.size + 2<=g2)->(Blk wn gb 122 #[.slice none 0 0,.slice none 0 0])->(w.heap.size + 2<=gb)->G ((a.put (some 13) (.slice (some ⟨g2,0,none⟩) n0 n0)).put (some 3) (.pointer (some ⟨gb,0,none⟩))) wn) 3 #[true,true,true,false,true,true,true,true,false,true,false] ?_ ?_
 ·
  try simp only [Act.put,pt1,pt2,pt3]
  intro wn g2 gb HBS HR HM2 HFg2 HV HFgb;have HBS:=qz HBS;have HR:=qz HR;have HM2:=qz HM2;have HFg2:=qz HFg2;have HV:=qz HV;have HFgb:=qz HFgb;refine rdy 3 (fun K hK => ?_);have HBS0:=HBS;have hbz:=b1' wn (.cells (madeCells #[.bool false] n1) 4);have HBS:=qz (HBS0.out.step hbz);have HM1:=qz (made_b17 wn n1)
  have HFg1:Hid (w.heap.size + 2<=wn.heap.size):=qz (by have:=HR.out.lt; omega);have HR:=qz (HR.out.below hbz HR.out.lt);have HM2:=qz (HM2.out.below hbz HM2.out.lt);have HV:=qz (HV.out.below hbz HV.out.lt);clear hbz HBS0;obtain ⟨g1,hg1⟩:=exq wn.heap.size;obtain ⟨wm,hwm⟩:=exq (wn.alloc (.cells (madeCells #[.bool false] n1) 4));rw [hwm] at HBS HR HM1 HM2 HV
  rw [hg1] at HM1 HFg1;go_simp;clear hg1 hwm;obtain ⟨wn,hwn⟩:∃ W,W = wm:=⟨_,rfl⟩
  subst hwn;refine koq hK HBS.out (fun hHeld=>?_);clear hK K;refine tkpq hP 8 ?_;exact K_3_7_9.out _ _ _ _ HBS.out HR.out HM1.out HFg1.out HM2.out HFg2.out HV.out HFgb.out
 intro key
 (try dsimp only [Act.put] at key); try simp only [pt1,pt2,pt3] at key
 have K_7_9:=qz key;clear key
 refine memo (fun a G => ∀ (wn:World) (gb:Nat),(By16 w S A0 A1 A2 A3 A4 n0 n1 n2 n3 n4 c0 c1 c2 c3 c4 sq wn)->(Blk wn (w.heap.size + 1) 122 #[.slice none 0 0,.slice none 0 0])->(Blk wn gb 122 #[.slice none 0 0,.slice none 0 0])->(w.heap.size + 2<=gb)->G (a.put (some 3) (.pointer (some ⟨gb,0,none⟩))) wn) 4 #[true,true,true,false,true,true,true,false,false,true,false] ?_ ?_
 ·
  try simp only [Act.put,pt1,pt2,pt3]
  intro wn gb HBS HR HV HFgb;have HBS:=qz HBS;have HR:=qz HR;have HV:=qz HV;have HFgb:=qz HFgb;refine wpAnyH_ready (rs:=[3,7]) (by kernel_rfl) (by simp) (rc (fun K hK => ?_) (rc (fun K hK => ?_) AllReadyH.nil))
  ·
   skip;have HBS0:=HBS;have hbz:=b1' wn (.cells (madeCells #[.bool false] n1) 4);have HBS:=qz (HBS0.out.step hbz);have HM1:=qz (made_b17 wn n1);have HFg1:Hid (w.heap.size + 2<=wn.heap.size):=qz (by have:=HR.out.lt; omega);have HR:=qz (HR.out.below hbz HR.out.lt);have HV:=qz (HV.out.below hbz HV.out.lt);clear hbz HBS0;obtain ⟨g1,hg1⟩:=exq wn.heap.size
   obtain ⟨wm,hwm⟩:=exq (wn.alloc (.cells (madeCells #[.bool false] n1) 4));rw [hwm] at HBS HR HM1 HV;rw [hg1] at HM1 HFg1;go_simp;clear hg1 hwm;obtain ⟨wn,hwn⟩:∃ W,W = wm:=⟨_,rfl⟩
   subst hwn;refine koq hK HBS.out (fun hHeld=>?_);clear hK K;exact K_3_9.out _ _ _ HBS.out HR.out HM1.out HFg1.out HV.out HFgb.out
  ·
   skip;have HBS0:=HBS;have hbz:=b1' wn (.cells (madeCells #[.int .i64 0] n0) 3);have HBS:=qz (HBS0.out.step hbz);have HM2:=qz (made_i17 wn n0);have HFg2:Hid (w.heap.size + 2<=wn.heap.size):=qz (by have:=HR.out.lt; omega);have HR:=qz (HR.out.below hbz HR.out.lt);have HV:=qz (HV.out.below hbz HV.out.lt);clear hbz HBS0;obtain ⟨g2,hg2⟩:=exq wn.heap.size
   obtain ⟨wm,hwm⟩:=exq (wn.alloc (.cells (madeCells #[.int .i64 0] n0) 3));rw [hwm] at HBS HR HM2 HV;rw [hg2] at HM2 HFg2;go_simp;clear hg2 hwm;obtain ⟨wn,hwn⟩:∃ W,W = wm:=⟨_,rfl⟩
   subst hwn;refine koq hK HBS.out (fun hHeld=>?_);clear hK K;exact K_7_9.out _ _ _ HBS.out HR.out HM2.out HFg2.out HV.out HFgb.out
 intro key
 (try dsimp only [Act.put] at key); try simp only [pt1,pt2,pt3] at key
 have K_9:=qz key;clear key
 refine memo (fun a G => ∀ (wn:World) (g2:Nat),(By16 w S A0 A1 A2 A3 A4 n0 n1 n2 n3 n4 c0 c1 c2 c3 c4 sq wn)->(Blk wn (w.heap.size + 1) 122 #[.slice none 0 0,.slice none 0 0])->(Ib13 wn g2 n0 (fun _ => 0))->(w.heap.size + 2<=g2)->G (a.put (some 13) (.slice (some ⟨g2,0,none⟩) n0 n0)) wn) 4 #[true,true,true,false,true,true,true,true,false,false,false] ?_ ?_
 ·
  try simp only [Act.put,pt1,pt2,pt3]
  intro wn g2 HBS HR HM2 HFg2;have HBS:=qz HBS;have HR:=qz HR;have HM2:=qz HM2;have HFg2:=qz HFg2;refine wpAnyH_ready (rs:=[3,9]) (by kernel_rfl) (by simp) (rc (fun K hK => ?_) (rc (fun K hK => ?_) AllReadyH.nil))
  ·
   skip;have HBS0:=HBS;have hbz:=b1' wn (.cells (madeCells #[.bool false] n1) 4);have HBS:=qz (HBS0.out.step hbz);have HM1:=qz (made_b17 wn n1);have HFg1:Hid (w.heap.size + 2<=wn.heap.size):=qz (by have:=HR.out.lt; omega);have HR:=qz (HR.out.below hbz HR.out.lt);have HM2:=qz (HM2.out.below hbz HM2.out.lt);clear hbz HBS0;obtain ⟨g1,hg1⟩:=exq wn.heap.size
   obtain ⟨wm,hwm⟩:=exq (wn.alloc (.cells (madeCells #[.bool false] n1) 4));rw [hwm] at HBS HR HM1 HM2;rw [hg1] at HM1 HFg1;go_simp;clear hg1 hwm;obtain ⟨wn,hwn⟩:∃ W,W = wm:=⟨_,rfl⟩
   subst hwn;refine koq hK HBS.out (fun hHeld=>?_);clear hK K;refine tkpq hP 8 ?_;exact K_3_7.out _ _ _ HBS.out HR.out HM1.out HFg1.out HM2.out HFg2.out
  ·
   skip;have HBS0:=HBS;have hbz:=b1' wn (.cells #[.slice none 0 0,.slice none 0 0] 122);have HBS:=qz (HBS0.out.step hbz);have HV:=qz (Blk.new wn 122 #[.slice none 0 0,.slice none 0 0]);have HFgb:Hid (w.heap.size + 2<=wn.heap.size):=qz (by have:=HR.out.lt; omega);have HR:=qz (HR.out.below hbz HR.out.lt);have HM2:=qz (HM2.out.below hbz HM2.out.lt)
   clear hbz HBS0;obtain ⟨gb,hgb⟩:=exq wn.heap.size;obtain ⟨wm,hwm⟩:=exq (wn.alloc (.cells #[.slice none 0 0,.slice none 0 0] 122));rw [hwm] at HBS HR HV HM2;rw [hgb] at HV HFgb;go_simp;clear hgb hwm;obtain ⟨wn,hwn⟩:∃ W,W = wm:=⟨_,rfl⟩
   subst hwn;refine koq hK HBS.out (fun hHeld=>?_);clear hK K;exact K_7_9.out _ _ _ HBS.out HR.out HM2.out HFg2.out HV.out HFgb.out
 intro key
 (try dsimp only [Act.put] at key); try simp only [pt1,pt2,pt3] at key
 have K_7:=qz key;clear key
 refine memo (fun a G => ∀ (wn:World) (g1:Nat),(By16 w S A0 A1 A2 A3 A4 n0 n1 n2 n3 n4 c0 c1 c2 c3 c4 sq wn)->(Blk wn (w.heap.size + 1) 122 #[.slice none 0 0,.slice none 0 0])->(Bb13 wn g1 n1 (fun _ => false))->(w.heap.size + 2<=g1)->G (a.put (some 9) (.slice (some ⟨g1,0,none⟩) n1 n1)) wn) 4 #[true,true,true,true,true,true,true,false,false,false,false] ?_ ?_
 ·
  try simp only [Act.put,pt1,pt2,pt3]
  intro wn g1 HBS HR HM1 HFg1;have HBS:=qz HBS;have HR:=qz HR;have HM1:=qz HM1;have HFg1:=qz HFg1;refine wpAnyH_ready (rs:=[7,9]) (by kernel_rfl) (by simp) (rc (fun K hK => ?_) (rc (fun K hK => ?_) AllReadyH.nil))
  ·
   skip;have HBS0:=HBS;have hbz:=b1' wn (.cells (madeCells #[.int .i64 0] n0) 3);have HBS:=qz (HBS0.out.step hbz);have HM2:=qz (made_i17 wn n0);have HFg2:Hid (w.heap.size + 2<=wn.heap.size):=qz (by have:=HR.out.lt; omega);have HR:=qz (HR.out.below hbz HR.out.lt);have HM1:=qz (HM1.out.step hbz);clear hbz HBS0;obtain ⟨g2,hg2⟩:=exq wn.heap.size
   obtain ⟨wm,hwm⟩:=exq (wn.alloc (.cells (madeCells #[.int .i64 0] n0) 3));rw [hwm] at HBS HR HM2 HM1;rw [hg2] at HM2 HFg2;go_simp;clear hg2 hwm;obtain ⟨wn,hwn⟩:∃ W,W = wm:=⟨_,rfl⟩
   subst hwn;refine koq hK HBS.out (fun hHeld=>?_);clear hK K;refine tkpq hP 8 ?_;exact K_3_7.out _ _ _ HBS.out HR.out HM1.out HFg1.out HM2.out HFg2.out
  ·
   skip;have HBS0:=HBS;have hbz:=b1' wn (.cells #[.slice none 0 0,.slice none 0 0] 122);have HBS:=qz (HBS0.out.step hbz);have HV:=qz (Blk.new wn 122 #[.slice none 0 0,.slice none 0 0]);have HFgb:Hid (w.heap.size + 2<=wn.heap.size):=qz (by have:=HR.out.lt; omega);have HR:=qz (HR.out.below hbz HR.out.lt);have HM1:=qz (HM1.out.step hbz);clear hbz HBS0
   obtain ⟨gb,hgb⟩:=exq wn.heap.size;obtain ⟨wm,hwm⟩:=exq (wn.alloc (.cells #[.slice none 0 0,.slice none 0 0] 122));rw [hwm] at HBS HR HV HM1;rw [hgb] at HV HFgb;go_simp;clear hgb hwm;obtain ⟨wn,hwn⟩:∃ W,W = wm:=⟨_,rfl⟩
   subst hwn;refine koq hK HBS.out (fun hHeld=>?_);clear hK K;exact K_3_9.out _ _ _ HBS.out HR.out HM1.out HFg1.out HV.out HFgb.out
 intro key
 (try dsimp only [Act.put] at key); try simp only [pt1,pt2,pt3] at key
 have K_3:=qz key;clear key;refine wpAnyH_ready (rs:=[3,7,9]) (by kernel_rfl) (by simp) (rc (fun K hK => ?_) (rc (fun K hK => ?_) (rc (fun K hK => ?_) AllReadyH.nil)))
 ·
  skip;have HBS0:=HBS;have hbz:=b1' wn (.cells (madeCells #[.bool false] n1) 4);have HBS:=qz (HBS0.out.step hbz);have HM1:=qz (made_b17 wn n1);have HFg1:Hid (w.heap.size + 2<=wn.heap.size):=qz (by have:=HR.out.lt; omega);have HR:=qz (HR.out.below hbz HR.out.lt);clear hbz HBS0;obtain ⟨g1,hg1⟩:=exq wn.heap.size
  obtain ⟨wm,hwm⟩:=exq (wn.alloc (.cells (madeCells #[.bool false] n1) 4));rw [hwm] at HBS HR HM1;rw [hg1] at HM1 HFg1;go_simp;clear hg1 hwm;obtain ⟨wn,hwn⟩:∃ W,W = wm:=⟨_,rfl⟩
  subst hwn;refine koq hK HBS.out (fun hHeld=>?_);clear hK K;exact K_3.out _ _ HBS.out HR.out HM1.out HFg1.out
 ·
  skip;have HBS0:=HBS;have hbz:=b1' wn (.cells (madeCells #[.int .i64 0] n0) 3);have HBS:=qz (HBS0.out.step hbz);have HM2:=qz (made_i17 wn n0);have HFg2:Hid (w.heap.size + 2<=wn.heap.size):=qz (by have:=HR.out.lt; omega);have HR:=qz (HR.out.below hbz HR.out.lt);clear hbz HBS0;obtain ⟨g2,hg2⟩:=exq wn.heap.size
  obtain ⟨wm,hwm⟩:=exq (wn.alloc (.cells (madeCells #[.int .i64 0] n0) 3));rw [hwm] at HBS HR HM2;rw [hg2] at HM2 HFg2;go_simp;clear hg2 hwm;obtain ⟨wn,hwn⟩:∃ W,W = wm:=⟨_,rfl⟩
  subst hwn;refine koq hK HBS.out (fun hHeld=>?_);clear hK K;exact K_7.out _ _ HBS.out HR.out HM2.out HFg2.out
 ·
  skip;have HBS0:=HBS;have hbz:=b1' wn (.cells #[.slice none 0 0,.slice none 0 0] 122);have HBS:=qz (HBS0.out.step hbz);have HV:=qz (Blk.new wn 122 #[.slice none 0 0,.slice none 0 0]);have HFgb:Hid (w.heap.size + 2<=wn.heap.size):=qz (by have:=HR.out.lt; omega);have HR:=qz (HR.out.below hbz HR.out.lt);clear hbz HBS0;obtain ⟨gb,hgb⟩:=exq wn.heap.size
  obtain ⟨wm,hwm⟩:=exq (wn.alloc (.cells #[.slice none 0 0,.slice none 0 0] 122));rw [hwm] at HBS HR HV;rw [hgb] at HV HFgb;go_simp;clear hgb hwm;obtain ⟨wn,hwn⟩:∃ W,W = wm:=⟨_,rfl⟩
  subst hwn;refine koq hK HBS.out (fun hHeld=>?_);clear hK K;exact K_9.out _ _ HBS.out HR.out HV.out HFgb.out
end
theorem summed17 (v:Value) (S:Sv14) (w:World) (h:St14 w v S) (hf:Fine14 S) :
  Calls Tryz.prog 99 #[v] w (RetSu17 w S):=by
 obtain ⟨A0,A1,A2,A3,A4,n0,n1,n2,n3,n4,c0,c1,c2,c3,c4,sq,rfl,hs⟩:=h;obtain ⟨os,hd⟩:=done13_ex (Ca15 S) S.C.length;have hl:os.length = S.C.length:=Done13.full (in13_cut _ _) hd (free15_ring.1 hf.2.2.2.2.2.2.2.2.1)
 have HP:Hid (RetSu17 w S = fun e w' => ∃ g1 g2,e = .returned (.agg #[.slice (some ⟨g1,0,none⟩) n1 n1,.slice (some ⟨g2,0,none⟩) n0 n0])/\w.heap.size<=g1/\w.heap.size<=g2/\Bb13 w' g1 n1 (cntb17 S)/\Ib13 w' g2 n0 (fun x => amn17 S ((x:Nat):Int))/\Below w.heap.size w w'):=qz (by unfold RetSu17; rw [hs.l0,hs.l1])
 have hx0:By16 w S A0 A1 A2 A3 A4 n0 n1 n2 n3 n4 c0 c1 c2 c3 c4 sq _:=⟨Bx14.new hs,hs⟩
 have hb2:=b1' (w.alloc (.cells #[.slice A0 n0 c0,.slice A1 n1 c1,.slice A2 n2 c2,.slice A3 n3 c3,.slice A4 n4 c4,.int .i64 sq] 28)) (.cells #[.slice none 0 0,.slice none 0 0] 122);have ho2:=Blk.new (w.alloc (.cells #[.slice A0 n0 c0,.slice A1 n1 c1,.slice A2 n2 c2,.slice A3 n3 c3,.slice A4 n4 c4,.int .i64 sq] 28)) 122 #[.slice none 0 0,.slice none 0 0]
 rw [show (w.alloc (.cells #[.slice A0 n0 c0,.slice A1 n1 c1,.slice A2 n2 c2,.slice A3 n3 c3,.slice A4 n4 c4,.int .i64 sq] 28)).heap.size = w.heap.size + 1 by simp] at ho2;have hx2:=hx0.step hb2
 obtain ⟨W2,hW2⟩:=exq ((w.alloc (.cells #[.slice A0 n0 c0,.slice A1 n1 c1,.slice A2 n2 c2,.slice A3 n3 c3,.slice A4 n4 c4,.int .i64 sq] 28)).alloc (.cells #[.slice none 0 0,.slice none 0 0] 122));rw [hW2] at ho2 hx2;have HX2:=qz hx2;have HO2:=qz ho2;have hm0:=hs.m0;have hm1:=hs.m1
 have HOR:=qz (fun W (h:Bx14 w S A0 A1 A2 A3 A4 n0 n1 n2 n3 n4 c0 c1 c2 c3 c4 sq W) => order17 _ S os W h.st hd hl);have HBA:=qz (fun A N c W => back13_calls A N c W);have HF:=qz hf;have HD:=qz hd.1;have HL:=qz hl;have HL0:=qz hs.l0
 have HNL:Hid ((ord15 S os).length<=1000):=qz (by
  have h1:=List.length_filter_le (fun (x:Nat) => us14 usC S.C (x:Int)) os;have h2:=hs.l0;unfold ord15
  omega)
 clear hs hx0 hb2 hx2 ho2 hd hl hf;refine calls_of_leave Tryz.func99 rfl ?_;simp only [Tryz.ntmps99,List.size_toArray,List.length_cons,List.length_nil,Nat.reduceAdd,Nat.reduceSub,Array.replicate_succ,Array.replicate_zero,List.push_toArray,List.append_toArray,List.nil_append,List.cons_append];go_upto_region 1 with (fail)
 refine made17 hm0 hm1 HX2.out HO2.out (fun _ _ _ _ _ h => h) (fun x6 x7 x8 x9 x10 x11 x12 x13 x14 wn gb g1 g2 hsu => ?_);have HSU:=qz hsu;obtain ⟨x0,x1,x2,x3,x4,x5⟩:=ce6 hsu.b.b.x;clear hsu HX2 HO2 hW2;go_wp2_with fail;refine (HOR.out _ HSU.out.b.b).mono ?_;rintro e w3 ⟨A,ca,rfl,hr3,hfa3,hb3⟩;obtain ⟨ns,hns⟩:=exq (ord15 S os);obtain ⟨m,hm⟩:=exq ns.length
 have hmn:=HNL.out;rw [hns] at hr3 hfa3 hmn ⊢;rw [hm] at hmn ⊢;have HNS:=qz hns;have HM:=qz hm;have HW3:=qz (HSU.out.step hb3);have HR3:=qz hr3;have HA3:=qz (hfa3);have HB3:=qz hb3;clear hr3 hfa3 hb3 HNL hns hm x0 x1 x2 x3 x4 x5;go_wp2_with fail;refine (HBA.out A m ca _).mono ?_;rintro e W0 ⟨rfl,hW0⟩
 have hsz0:W0.heap.size = w3.heap.size + 1:=by rw [hW0]; simp
 have hb0:Below w3.heap.size w3 W0:=by rw [hW0]; exact b1' _ _
 have f2:W0.cell? ⟨w3.heap.size,0,none⟩ = some (.slice A m ca):=by rw [hW0]; exact (Blk.new w3 26 #[.slice A m ca]).cell 0
 have hr0:Rd W0 W0.heap.size A ns:=(HR3.out.below hb0 (Nat.le_refl _)).more hb0.size;have hgo:=back17_goes Fence.wide 4 trivial rfl (by omega) w3.heap.size m ca A ns W0 HM.out hr0 (by omega) f2;have hsu0:=HW3.out.step hb0;have hg1w:g1 < wn.heap.size:=HSU.out.r1.lt17;have hg2w:g2 < wn.heap.size:=HSU.out.r2.lt;have hgbw:gb < wn.heap.size:=HSU.out.v.lt
 have hw3s:=HB3.out.size;have hwww:w.heap.size + 1 < wn.heap.size:=HSU.out.o.lt;have HI0:Hid (∃ M Am,Lb17 S ns (m - 0) M Am/\Su17 w S A0 A1 A2 A3 A4 n0 n1 n2 n3 n4 c0 c1 c2 c3 c4 sq gb g1 g2 M Am W0):=qz ⟨_,_,lb17_start S ns HM.out,hsu0⟩
 have HSK:Hid (∀ (k:Nat) (p:Addr),bkeep17 w3.heap.size A ns k p->p.block < W0.heap.size):=qz (fun k p hp => by
  rcases hp with h | ⟨hx,q,h1,h2⟩
  · omega
  ·
   obtain ⟨b,o,h3,h4,_⟩:=hr0 hx;rw [h1] at h3;injection h3 with h3
   rw [h2,h3]
   exact h4)
 have HSN:Hid (∀ (k:Nat) (p:Addr),bkeep17 w3.heap.size A ns k p->p.block≠g1/\p.block≠g2):=qz (fun k p hp => by
  rcases hp with h | ⟨hx,q,h1,h2⟩
  · exact ⟨by omega,by omega⟩
  ·
   obtain ⟨b,o,h3,h4⟩:=HA3.out hx;rw [h1] at h3;injection h3 with h3
   rw [h2,h3]
   exact ⟨by show b≠g1; omega,by show b≠g2; omega⟩)
 clear f2 hb0 hW0 hr0 hsu0;go_wp2_with fail;refine (wpIn_wide (n:=5)).1 ?_
 refine wpIn_rangeFunc_goes rfl (by omega) (gf:=130) (lb:=#[.pointer (some ⟨w3.heap.size,0,none⟩)]) rfl trivial (enters_of Tryz.func130 (by kernel_rfl) rfl)
  hgo HSK.out (Below.refl _ _) (fun _ => rfl)
  (fun k W => ∃ M Am,Lb17 S ns (m - k) M Am/\Su17 w S A0 A1 A2 A3 A4 n0 n1 n2 n3 n4 c0 c1 c2 c3 c4 sq gb g1 g2 M Am W)
  (fun c k W => False)
  (fun s X Y row hs hg hr => by
   obtain ⟨M,Am,h1,h2⟩:=hs
   exact ⟨M,Am,h1,h2.kept hg (by omega) hr⟩)
  (fun c s X Y row hs hg hr => hs.elim)
  HI0.out ?round ?done ?stop
 case round =>
  clear HI0 hgo;intro l k W hk _;simp only [benc17];gi_wp2;refine ⟨trivial,?_⟩;rintro Wb ⟨M,Am,hlb,hsu⟩;obtain ⟨d,hd⟩:=exq (m - 1 - k);have hd1:m - k = d + 1:=by omega
  have hdm:d < m:=by omega
  have hd2:m - (k + 1) = d:=by omega
  rw [HM.out,hd];rw [hd1] at hlb;obtain ⟨x,hx⟩:=exq (nth ns d);rw [hx]
  have hux:us14 usC S.C (x:Int) = true:=by
   have h:=ord15_used (S:=S) (os:=os) (k:=d) (by rw [HNS.out,HM.out]; exact hdm)
   rwa [HNS.out,hx] at h
  have hpre:=Lb17.pre (c:=x) HF.out.2.2.2.2.1 HD.out HL.out (by rw [HNS.out,HM.out]; exact hdm) (by rw [HNS.out]; exact hlb) (by rw [HNS.out]; exact hx);have hnext:=Lb17.next (c:=x) HF.out.2.2.2.2.1 HD.out HL.out (by rw [HNS.out,HM.out]; exact hdm) (by rw [HNS.out]; exact hlb) (by rw [HNS.out]; exact hx);rw [HNS.out] at hnext
  have hadd:=add17 w S A0 A1 A2 A3 A4 n0 n1 n2 n3 n4 c0 c1 c2 c3 c4 sq g1 g2 x M Am Wb hsu.b.s HF.out hsu.b.b.b hsu.r1 hsu.r2 (by have:=hsu.f1; omega) (by have:=hsu.f2; omega) hsu.ne.1 hux hpre.1 hpre.2;have HAD:=qz (CallsIn.inRound l (callsIn_wide (n:=2).2 hadd));have HNX:=qz hnext;have HSB:=qz hsu;have y0:=hsu.v.cell 0;have y1:=hsu.v.cell 1
  obtain ⟨z0,z1,z2,z3,z4,z5⟩:=ce6 hsu.b.b.x;clear hlb hsu hx hux hpre hnext hadd;gi_wp2_with fail;refine ⟨trivial,?_⟩;refine HAD.out.mono ?_;rintro e WX ⟨rfl,hk1,h1,h2⟩;have HT:=qz (HSB.out.turn hk1 h1 h2);have HKO:=qz (bk17_others hk1 HSB.out.r1 HSB.out.r2)
  have HSM:Hid (Same (bkeep17 w3.heap.size A ns k) Wb WX):=qz ⟨hk1.size,fun p v hp hv => by
   have hn:=HSN.out k p hp;have hlt:=World.block_lt_of_cell? _ _ hv
   exact (World.cell?_of_block (hk1.keep p.block hlt hn.1 (by simpa using hn.2))).trans hv⟩
  clear HAD hk1 h1 h2 y0 y1 z0 z1 z2 z3 z4 z5;gi_wp2_with fail;refine ⟨HKO.out.from _,HSM.out,?_⟩;show ∃ M Am,Lb17 S ns (m - (k + 1)) M Am/\_;rw [hd2];exact ⟨_,_,HNX.out,HT.out⟩
 case done =>
  clear HI0 hgo;rintro D W hD ⟨M,Am,hlb,hsu⟩ hK;rw [Nat.sub_self] at hlb;obtain ⟨he1,he2⟩:=Lb17.end_ HF.out.2.2.2.2.1 HD.out HL.out (by rw [HNS.out]; exact hlb);obtain rfl:M = cntb17 S:=funext he1;obtain rfl:Am = fun x => amn17 S ((x:Nat):Int):=funext he2
  have v0:=hsu.v.cell 0;have v1:=hsu.v.cell 1;have p0:=hsu.o.cell 0;have p1:=hsu.o.cell 1;have q0:=hsu.o.frozen 0;have q1:=hsu.o.frozen 1;have hg1:=hsu.f1;have hg2:=hsu.f2;obtain ⟨W5,hW5⟩:=exq ((W.setCell ⟨w.heap.size + 1,0,none⟩ (.slice (some ⟨g1,0,none⟩) n1 n1)).setCell ⟨w.heap.size + 1,1,none⟩ (.slice (some ⟨g2,0,none⟩) n0 n0))
  have ho5:Blk W5 (w.heap.size + 1) 122 #[.slice (some ⟨g1,0,none⟩) n1 n1,.slice (some ⟨g2,0,none⟩) n0 n0]:=by rw [<- hW5]; simpa using (hsu.o.set_ 0 (.slice (some ⟨g1,0,none⟩) n1 n1)).set_ 1 (.slice (some ⟨g2,0,none⟩) n0 n0)
  have hK5:W5.heap[D]? = some (.deferred (some [])):=by rw [<- hW5]; exact (KeepsOthers.setCell _ _ _).same _ _ ((KeepsOthers.setCell _ _ _).same _ _ hK rfl) rfl
  have hB5:Below w.heap.size w W5:=by rw [<- hW5]; exact (hsu.b.b.b.setCell (by simp) _).setCell (by simp) _
  have hr1:Bb13 W5 g1 n1 (cntb17 S):=by rw [<- hW5]; exact (hsu.r1.far17 (by simp; omega) _).far17 (by simp; omega) _
  have hr2:Ib13 W5 g2 n0 (fun x => amn17 S ((x:Nat):Int)):=by rw [<- hW5]; exact (hsu.r2.far (by simp; omega) _).far (by simp; omega) _
  have m0:=mark_cell hK5 (show W5.cell? ⟨w.heap.size + 1,0,none⟩ = some (.slice (some ⟨g1,0,none⟩) n1 n1) from ho5.cell 0);have m1:=mark_cell hK5 (show W5.cell? ⟨w.heap.size + 1,1,none⟩ = some (.slice (some ⟨g2,0,none⟩) n0 n0) from ho5.cell 1);have HB5:=qz (mark_below hB5 hK5 (by have:=HB3.out.size; omega))
  have HR1:=qz (bb17_kept hr1 (grownBy_putObj' W5 D (.deferred none)) (fun r e => by cases e; exact ⟨_,hK5,rfl⟩));have HR2:=qz (ib17_kept hr2 (grownBy_putObj' W5 D (.deferred none)) (fun r e => by cases e; exact ⟨_,hK5,rfl⟩));have HK5:=qz hK5;have HG:Hid (w.heap.size<=g1/\w.heap.size<=g2):=qz ⟨by omega,by omega⟩
  clear hlb hsu hK he1 he2 ho5 hK5 hB5 hr1 hr2 hg1 hg2;go_wp2_with fail;rw [HP.out];exact leave_mark (v:=.agg #[.slice (some ⟨g1,0,none⟩) n1 n1,.slice (some ⟨g2,0,none⟩) n0 n0]) HK5.out (by simp [results,Tryz.results99,go_sem,m0,m1]) ⟨g1,g2,rfl,HG.out.1,HG.out.2,HR1.out,HR2.out,HB5.out⟩
 case stop =>
  rintro D c k W hD hk h hK;exact h.elim
end
section
open Go.RowKit
set_option maxRecDepth 100000
def QEl18 (W:World) (cs:Array Value) (q:Nat × Nat) (k:Nat):Prop :=
 ∃ A1 n1 c1 A2 n2 c2,cs[k * 2]? = some (.slice A1 n1 c1)/\cs[k * 2 + 1]? = some (.slice A2 n2 c2)/\Nv W 0 (.slice A1 n1 c1) q.1/\Nv W 0 (.slice A2 n2 c2) q.2
def Qr18 (W:World) (g n:Nat) (q:Nat->Nat × Nat):Prop:=∃ cs:Array Value,Blk W g 46 cs/\cs.size = n * 2/\∀ k,k < n->QEl18 W cs (q k) k
theorem Qr18.lt {W:World} {g n:Nat} {q:Nat->Nat × Nat} (h:Qr18 W g n q):g < W.heap.size:=by
 obtain ⟨cs,h1,_⟩:=h;exact h1.lt
theorem Qr18.step {W W':World} {g n:Nat} {q:Nat->Nat × Nat} (h:Qr18 W g n q) (hb:Below W.heap.size W W'):Qr18 W' g n q:=by
 obtain ⟨cs,h1,h2,h3⟩:=h;refine ⟨cs,h1.below hb h1.lt,h2,fun k hk => ?_⟩;obtain ⟨A1,n1,c1,A2,n2,c2,e1,e2,e3,e4⟩:=h3 k hk;exact ⟨A1,n1,c1,A2,n2,c2,e1,e2,e3.below hb,e4.below hb⟩
theorem Qr18.congr {W:World} {g n:Nat} {q q':Nat->Nat × Nat} (h:Qr18 W g n q) (e:∀ k,k < n->q k = q' k):Qr18 W g n q':=by
 obtain ⟨cs,h1,h2,h3⟩:=h;exact ⟨cs,h1,h2,fun k hk => by rw [<- e k hk]; exact h3 k hk⟩
theorem Qr18.cells {W:World} {g n:Nat} {q:Nat->Nat × Nat} (h:Qr18 W g n q) {k:Nat} (hk:k < n) :
  ∃ A1 n1 c1 A2 n2 c2,W.cell? ⟨g,k * 2,none⟩ = some (.slice A1 n1 c1)/\W.cell? ⟨g,k * 2 + 1,none⟩ = some (.slice A2 n2 c2)/\Nv W 0 (.slice A1 n1 c1) (q k).1/\Nv W 0 (.slice A2 n2 c2) (q k).2/\W.frozen? ⟨g,k * 2,none⟩ = false/\W.frozen? ⟨g,k * 2 + 1,none⟩ = false:=by
 obtain ⟨cs,h1,h2,h3⟩:=h;obtain ⟨A1,n1,c1,A2,n2,c2,e1,e2,e3,e4⟩:=h3 k hk;exact ⟨A1,n1,c1,A2,n2,c2,by rw [h1.cell]; exact e1,by rw [h1.cell]; exact e2,e3,e4,h1.frozen _,h1.frozen _⟩
theorem Qr18.far {W:World} {g n g' i m c:Nat} {A:Option Addr} {q:Nat->Nat × Nat} (h:Qr18 W g n q) (hg:g≠g') (hc:W.cell? ⟨g',i,none⟩ = some (.slice A m c)) (u:Value):Qr18 (W.setCell ⟨g',i,none⟩ u) g n q:=by
 obtain ⟨cs,h1,h2,h3⟩:=h;refine ⟨cs,h1.far hg u,h2,fun k hk => ?_⟩;obtain ⟨A1,n1,c1,A2,n2,c2,e1,e2,e3,e4⟩:=h3 k hk;exact ⟨A1,n1,c1,A2,n2,c2,e1,e2,e3.setS hc,e4.setS hc⟩
def putq18 (W:World) (g k:Nat) (x y:Value):World:=(W.setCell ⟨g,k * 2,none⟩ x).setCell ⟨g,k * 2 + 1,none⟩ y
theorem Qr18.far2 {W:World} {g n g' n' k:Nat} {q q':Nat->Nat × Nat} (h:Qr18 W g n q) (hg:g≠g') (h':Qr18 W g' n' q') (hk:k < n') (x y:Value):Qr18 (putq18 W g' k x y) g n q:=by
 obtain ⟨A1,n1,c1,A2,n2,c2,e1,e2,_⟩:=h'.cells hk;have h1:=h.far hg e1 x;exact h1.far hg (A:=A2) (m:=n2) (c:=c2) ((World.cell?_setCell_other _ _ _ _ (by intro e; injection e; omega)).trans e2) y
theorem Nv.putq18 {W:World} {L g n k a:Nat} {v:Value} {q:Nat->Nat × Nat} (hv:Nv W L v a) (h:Qr18 W g n q) (hk:k < n) (x y:Value):Nv (Go.Proofs.YtkdmnlihpebbkaaGreat.putq18 W g k x y) L v a:=by
 obtain ⟨A1,n1,c1,A2,n2,c2,e1,e2,_⟩:=h.cells hk;exact (hv.setS e1).setS (A:=A2) (n:=n2) (c:=c2) ((World.cell?_setCell_other _ _ _ _ (by intro e; injection e; omega)).trans e2)
theorem Qr18.put {W:World} {g n k a b:Nat} {q:Nat->Nat × Nat} (h:Qr18 W g n q) (hk:k < n) {A1 A2:Option Addr} {n1 c1 n2 c2 L1 L2:Nat} (hx:Nv W L1 (.slice A1 n1 c1) a) (hy:Nv W L2 (.slice A2 n2 c2) b) :
  Qr18 (putq18 W g k (.slice A1 n1 c1) (.slice A2 n2 c2)) g n (upd q k (a,b)):=by
 have hx':=(hx.more (Nat.zero_le _)).putq18 h hk (.slice A1 n1 c1) (.slice A2 n2 c2);have hy':=(hy.more (Nat.zero_le _)).putq18 h hk (.slice A1 n1 c1) (.slice A2 n2 c2);have hall:∀ {L:Nat} {v:Value} {z:Nat},Nv W L v z->Nv (Go.Proofs.YtkdmnlihpebbkaaGreat.putq18 W g k (.slice A1 n1 c1) (.slice A2 n2 c2)) L v z:=fun hv => hv.putq18 h hk _ _
 obtain ⟨cs,h1,h2,h3⟩:=h;refine ⟨_,(h1.set_ (k * 2) (.slice A1 n1 c1)).set_ (k * 2 + 1) (.slice A2 n2 c2),by simp [h2],fun j hj => ?_⟩;by_cases e:j = k
 ·
  subst e;rw [upd_at];exact ⟨A1,n1,c1,A2,n2,c2,by rw [Array.getElem?_setIfInBounds_ne (by omega),Array.getElem?_setIfInBounds_self_of_lt (by omega)],by rw [Array.getElem?_setIfInBounds_self_of_lt (by simp; omega)],hx',hy'⟩
 ·
  rw [upd_far _ _ e];obtain ⟨B1,m1,d1,B2,m2,d2,e1,e2,e3,e4⟩:=h3 j hj;exact ⟨B1,m1,d1,B2,m2,d2,by rw [Array.getElem?_setIfInBounds_ne (by omega),Array.getElem?_setIfInBounds_ne (by omega),e1],by rw [Array.getElem?_setIfInBounds_ne (by omega),Array.getElem?_setIfInBounds_ne (by omega),e2],hall e3,hall e4⟩
theorem below_putq18 {L g k:Nat} {w W:World} (h:Below L w W) (hg:L<=g) (x y:Value):Below L w (putq18 W g k x y):=(h.setCell hg _).setCell hg _
theorem size_putq18 (W:World) (g k:Nat) (x y:Value):(putq18 W g k x y).heap.size = W.heap.size:=by unfold putq18; rw [setCell_size,setCell_size]
theorem Blk.putq18 {W:World} {b g k:Nat} {t:TypeId} {cs:Array Value} (h:Blk W b t cs) (hb:b≠g) (x y:Value):Blk (Go.Proofs.YtkdmnlihpebbkaaGreat.putq18 W g k x y) b t cs:=(h.far hb _).far hb _
theorem qr18_blk {W:World} {g n h:Nat} {t:TypeId} {q:Nat->Nat × Nat} {cs:Array Value} (r:Qr18 W g n q) (hb:Blk W h t cs) (ht:46≠t):g≠h:=by
 obtain ⟨es,h1,_⟩:=r;exact blk_ne12 h1 hb ht
theorem info_ratio18:(Tryz.prog.info? 46).map (fun i => (i.zero,i.size,i.bytes)) = some (some (.agg #[.slice none 0 0,.slice none 0 0]),2,48):=by kernel_rfl
theorem make_ratios18 (n:Nat) (hn:n<=1000000) (W:World):(Instr.makeSlice 40 (.int .i64 (n:Int)) (.int .i64 (n:Int))).run Tryz.prog W =
  .ok (.slice (some ⟨W.heap.size,0,none⟩) n n) (W.alloc (.cells (madeCells #[.slice none 0 0,.slice none 0 0] (n * 2)) 46)):=by
 obtain ⟨i,hi,hzz⟩:=Option.map_eq_some_iff.1 info_ratio18;simp only [Prod.mk.injEq] at hzz;obtain ⟨hz,hs,hb⟩:=hzz;have hr:=run_make (P:=Tryz.prog) W 40 46 i _ Tryz.underlying40 hi hz .i64 .i64 n n (by omega) (Int.le_refl _) (by rw [hb]; omega) (by omega);simp only [Int.toNat_natCast,hs,Value.cells] at hr;exact hr
theorem made18 (W:World) (n:Nat):Qr18 (W.alloc (.cells (madeCells #[.slice none 0 0,.slice none 0 0] (n * 2)) 46)) W.heap.size n (fun _ => (0,0)):=by
 have hs:(madeCells #[Value.slice none 0 0,Value.slice none 0 0] (n * 2)).size = n * 2:=size_madeCells _ _
 have hat:∀ j,j < n * 2->(madeCells #[Value.slice none 0 0,Value.slice none 0 0] (n * 2))[j]? = some (.slice none 0 0):=fun j hj => by
  rw [Array.getElem?_eq_getElem (by omega)];have h2:j % 2 = 0\/j % 2 = 1:=by omega
  rcases h2 with h2 | h2 <;> simp [madeCells,Array.getElem_ofFn,h2]
 exact ⟨_,Blk.new W _ _,hs,fun k hk => ⟨none,0,0,none,0,0,hat _ (by omega),hat _ (by omega),nv_zero_nil _ _,nv_zero_nil _ _⟩⟩
def RetQs18 (w:World) (n:Nat) (q:Nat->Nat × Nat) (e:Ending) (w':World):Prop:=∃ g,e = .returned (.slice (some ⟨g,0,none⟩) n n)/\w.heap.size<=g/\Qr18 w' g n q/\Below w.heap.size w w'
theorem Qr18.rats {W:World} {g n:Nat} {q:Nat->Nat × Nat} (h:Qr18 W g n q) (hs:∀ k,k < n->Sm18 (q k)):Rats W W.heap.size (some ⟨g,0,none⟩) ((List.range n).map q) 18:=fun k x hk => by
 have hkn:k < n:=by
  have:=(List.getElem?_eq_some_iff.1 hk).1;simpa using this
 obtain ⟨A1,n1,c1,A2,n2,c2,e1,e2,e3,e4,_⟩:=h.cells hkn
 have hx:q k = x:=by
  rw [List.getElem?_map,List.getElem?_range hkn] at hk;simpa using hk
 subst hx;have hsm:=hs k hkn;exact ⟨g,0,A1,n1,c1,A2,n2,c2,rfl,h.lt,by rw [Nat.zero_add]; exact e1,by rw [Nat.zero_add]; exact e2,e3.nr hsm.1,e4.nr hsm.2⟩
theorem lsum18_range (x:Nat->Rat) (l:List Nat):∀ n,lsum18 ((List.range n).map (fun k => x (nth l k))) = tsum18 x l n
 | 0 => rfl
 | n + 1 => by
  rw [List.range_succ,List.map_append,lsum18_app,lsum18_range x l n,List.map_cons,List.map_nil,lsum18,lsum18,tsum18]
  grind
theorem fold18_range {x:Nat->Rat} (l:List Nat) (n:Nat) (hx:∀ k,0<=x k):((List.range n).map (fun k => qr18 (x (nth l k)))).foldl addQ (0,1) = qr18 (tsum18 x l n):=by
 rw [<- lsum18_range,<- qr18_sum (l:=(List.range n).map (fun k => x (nth l k))) (fun y hy => by
  obtain ⟨k,_,rfl⟩:=List.mem_map.1 hy
  exact hx _),List.map_map]
 rfl
theorem zeros18 (n:Nat) (hn:n<=1000) (w:World):Calls Tryz.prog 90 #[.int .i64 (n:Int)] w (RetQs18 w n (fun _ => (0,1))):=by
 have hmk:=make_ratios18 n (by omega);have hb0:=b1' w (.cells (madeCells #[.slice none 0 0,.slice none 0 0] (n * 2)) 46);have hr0:=made18 w n;have HP:Hid (RetQs18 w n (fun _ => (0,1)) = fun e w' => ∃ g,e = .returned (.slice (some ⟨g,0,none⟩) n n)/\w.heap.size<=g/\Qr18 w' g n (fun _ => (0,1))/\Below w.heap.size w w'):=qz rfl;have HB0:=qz hb0;have HR0:=qz hr0
 clear hb0 hr0;go_enter Tryz.func90,Tryz.ntmps90;go_wp2_with fail;clear hmk;go_loopw [9] (fun i wr => ∃ (k:Nat) (q:Nat->Nat × Nat),i = .int .i64 (k:Int)/\k<=n/\Hid (∀ j,j < k->q j = (0,1))/\Hid (Qr18 wr w.heap.size n q)/\Hid (Below w.heap.size w wr)) (fun i _ => n - (intOf i).toNat)
 case atStart => exact ⟨0,_,rfl,by omega,qz (fun j hj => by omega),HR0,HB0⟩
 case round =>
  clear HR0 HB0;obtain ⟨k,q,rfl,hk,HM,HR,HB⟩:=hrel;by_cases hkn:k < n
  ·
   have i0:(0:Int)<=(k:Int):=by omega
   have i1:(k:Int) < (n:Int):=by omega
   go_wp2_with fail;refine (ratioZero_r wr).mono ?_;rintro e w4 ⟨A1,n1,c1,A2,n2,c2,rfl,hx,hy,hb4⟩;have h4:=HR.out.step hb4;obtain ⟨B1,m1,d1,B2,m2,d2,e1,e2,_,_,f1,f2⟩:=h4.cells hkn;have HN:=qz (h4.put hkn hx hy);have HB4:=qz (below_putq18 (k:=k) (HB.out.trans (hb4.mono HB.out.size)) (Nat.le_refl _) (.slice A1 n1 c1) (.slice A2 n2 c2))
   have HMN:Hid (∀ j,j < k + 1->upd q k (0,1) j = (0,1)):=qz (fun j hj => by
    by_cases e:j = k
    · subst e; rw [upd_at]
    · rw [upd_far _ _ e]; exact HM.out j (by omega))
   clear hb4 h4 hx hy HR HB HM;go_wp2_with fail;go_roundw
   case rel => exact ⟨k + 1,_,by go_num,by omega,HMN,HN,HB4⟩
   case measure => simp [intOf]; omega
  ·
   obtain rfl:k = n:=by omega
   have i1:¬ (k:Int) < (k:Int):=by omega
   go_wp2_with fail;go_ret;rw [HP.out];exact ⟨_,rfl,Nat.le_refl _,HR.out.congr HM.out,HB.out⟩
theorem share18 (a b:Nat) (ha:a < 9223372036854775808) (hb:b < 9223372036854775808) (hb0:0 < b) (w:World):Calls Tryz.prog 123 #[.int .i64 (a:Int),.int .i64 (b:Int)] w (RetQ w (a / Nat.gcd a b) (b / Nat.gcd a b)):=by
 have hb1:=b1 w (.cells #[.slice none 0 0,.slice none 0 0] 46);have hbk:=nilbox w;obtain ⟨W0,hW0⟩:=exq (w.alloc (.cells #[.slice none 0 0,.slice none 0 0] 46));rw [hW0] at hb1 hbk;have hwa:IntKind.u64.wrap (a:Int) = (a:Int):=by rw [IntKind.wrap_u64]; omega
 have hwb:IntKind.u64.wrap (b:Int) = (b:Int):=by rw [IntKind.wrap_u64]; omega
 have HO:=qz (ratioOf_r a b W0 (by omega) (by omega) hb0);have HBK:=qz hbk;have HB:=qz hb1;have hl:=hbk.lt;obtain ⟨x,hx⟩:=exq (a / Nat.gcd a b);obtain ⟨y,hy⟩:=exq (b / Nat.gcd a b);rw [hx,hy] at HO ⊢;clear hx hy hbk hb1 ha hb hb0;go_enter Tryz.func123,Tryz.ntmps123;go_wp2_with fail;refine HO.out.mono ?_;rintro e w2 ⟨A1,n1,c1,A2,n2,c2,rfl,hx,hy,hb2⟩
 have hb3:=hb2.trans ((b1' w2 (.cells #[.slice A1 n1 c1,.slice A2 n2 c2] 46)).mono hb2.size);have hk2:=Blk.new w2 46 #[.slice A1 n1 c1,.slice A2 n2 c2];have hba:=b1' w2 (.cells #[.slice A1 n1 c1,.slice A2 n2 c2] 46);have hx2:=hx.below hba;have hy2:=hy.below hba;have hbk2:=HBK.out.below hb3 hl;have hBw:=HB.out.trans (hb3.mono HB.out.size)
 have hlw:w.heap.size < W0.heap.size:=hl;go_upto_region 2 with (fail)
 obtain ⟨g2,hg2⟩:=exq w2.heap.size;obtain ⟨W3,hW3⟩:=exq (w2.alloc (.cells #[.slice A1 n1 c1,.slice A2 n2 c2] 46));rw [hg2,hW3] at hk2 ⊢;rw [hW3] at hx2 hy2 hbk2 hBw;have k0:=hk2.cell 0;have k1:=hk2.cell 1;have r0:=hbk2.cell 0;have r1:=hbk2.cell 1;have f0:=hbk2.frozen 0;have f1:=hbk2.frozen 1;have HX:=qz hx2;have HY:=qz hy2;have HBK2:=qz hbk2
 have HBW:=qz hBw;clear hx hy hb2 hb3 hba hk2 hx2 hy2 hbk2 hBw HO HBK HB hW0 hW3 hg2;go_wp2_with fail;have hp:=put_q HBK2.out (.slice A1 n1 c1) (.slice A2 n2 c2)
 exact bodyPost_ret (v:=.agg #[.slice A1 n1 c1,.slice A2 n2 c2]) (by simp [results,Tryz.results123,go_sem,hp.cell 0,hp.cell 1]) rfl
  ⟨_,_,_,_,_,_,rfl,(HX.out.put_q hlw _ _).more (by omega),(HY.out.put_q hlw _ _).more (by omega),(HBW.out.setCell (Nat.le_refl _) _).setCell (Nat.le_refl _) _⟩
theorem sum18_any (A:Option Addr) (L:List (Nat × Nat)) (n c:Nat) (w:World) (hl:L.length = n) (hr:Rats w w.heap.size A L 18) (hn:n<=100) :
  Calls Tryz.prog 35 #[.slice A n c] w (RetQ w (L.foldl addQ (0,1)).1 (L.foldl addQ (0,1)).2):=by
 have hb1:=b1 w (.cells #[.slice none 0 0,.slice none 0 0] 46);have hbk:=nilbox w
 have hrn:Rats (w.alloc (.cells #[.slice none 0 0,.slice none 0 0] 46)) (w.alloc (.cells #[.slice none 0 0,.slice none 0 0] 46)).heap.size A L 18:=fun k q hk => by
  obtain ⟨b,o,A1,n1,c1,A2,n2,c2,h1,h2,h3,h4,h5,h6⟩:=hr k q hk;exact ⟨b,o,A1,n1,c1,A2,n2,c2,h1,by simp; omega,(hb1.cell (p:=⟨b,o + k * 2,none⟩) h2).trans h3,(hb1.cell (p:=⟨b,o + k * 2 + 1,none⟩) h2).trans h4,h5.below hb1,h6.below hb1⟩
 obtain ⟨W0,hW0⟩:=exq (w.alloc (.cells #[.slice none 0 0,.slice none 0 0] 46));rw [hW0] at hb1 hbk hrn;have HO:=qz (ratioAdd_wide A L n c 18 W0 hl hrn (by omega) (by omega));have HBK:=qz hbk;have HB:=qz hb1;have hlw:=hbk.lt;obtain ⟨x,hx⟩:=exq ((L.foldl addQ (0,1)).1);obtain ⟨y,hy⟩:=exq ((L.foldl addQ (0,1)).2);rw [hx,hy] at HO ⊢
 clear hx hy hbk hb1 hrn hr hl;go_enter Tryz.func35,Tryz.ntmps35;go_wp2_with fail;refine HO.out.mono ?_;rintro e w2 ⟨A1,n1,c1,A2,n2,c2,rfl,hx,hy,hb2⟩;have hbk2:=HBK.out.below hb2 hlw;have r0:=hbk2.cell 0;have r1:=hbk2.cell 1;have f0:=hbk2.frozen 0;have f1:=hbk2.frozen 1;have HX:=qz hx;have HY:=qz hy;have HBK2:=qz hbk2
 have HBW:=qz (HB.out.trans (hb2.mono HB.out.size));clear hx hy hb2 hbk2 HO HBK HB hW0;go_wp2_with fail;have hp:=put_q HBK2.out (.slice A1 n1 c1) (.slice A2 n2 c2)
 exact bodyPost_ret (v:=.agg #[.slice A1 n1 c1,.slice A2 n2 c2]) (by simp [results,Tryz.results35,go_sem,hp.cell 0,hp.cell 1]) rfl
  ⟨_,_,_,_,_,_,rfl,(HX.out.put_q hlw _ _).more (by omega),(HY.out.put_q hlw _ _).more (by omega),(HBW.out.setCell (Nat.le_refl _) _).setCell (Nat.le_refl _) _⟩
end
end Go.Proofs.YtkdmnlihpebbkaaGreat
