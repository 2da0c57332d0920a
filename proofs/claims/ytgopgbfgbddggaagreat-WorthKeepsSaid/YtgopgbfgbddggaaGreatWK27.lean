/-
  SaidWorthKeeps, part 27 of 30: what the theorem worthKeeps_holds reaches.
-/
import Derived.Test.YtgopgbfgbddggaaGreatWK26
set_option linter.all false
namespace Go.Proofs.YtgopgbfgbddggaaGreat
open Go.RowKit
set_option maxRecDepth 100000
structure Tr18 (w:World) (S:Sv14) (A0 A1 A2 A3 A4:Option Addr) (n0 n1 n2 n3 n4 c0 c1 c2 c3 c4:Nat) (sq:Int) (gb go g1 g2 g3 g4:Nat) (q qt:Nat→Nat × Nat) (W:World):Prop where
 b:By16 w S A0 A1 A2 A3 A4 n0 n1 n2 n3 n4 c0 c1 c2 c3 c4 sq W
 v:Blk W gb 69 #[.slice (some ⟨g1,0,none⟩) n1 n1,.slice (some ⟨g2,0,none⟩) n0 n0,.slice (some ⟨g3,0,none⟩) n0 n0,.slice (some ⟨g4,0,none⟩) n1 n1]
 r4:Qr18 W g4 n1 qt
 r:Qr18 W go n2 q
 fo:w.heap.size + 1≤go
 ne:g4≠go
theorem Tr18.step {w:World} {S:Sv14} {A0 A1 A2 A3 A4:Option Addr} {n0 n1 n2 n3 n4 c0 c1 c2 c3 c4:Nat} {sq:Int} {gb go g1 g2 g3 g4:Nat} {q qt:Nat→Nat × Nat} {W W':World} (h:Tr18 w S A0 A1 A2 A3 A4 n0 n1 n2 n3 n4 c0 c1 c2 c3 c4 sq gb go g1 g2 g3 g4 q qt W) (hb:Below W.heap.size W W'):Tr18 w S A0 A1 A2 A3 A4 n0 n1 n2 n3 n4 c0 c1 c2 c3 c4 sq gb go g1 g2 g3 g4 q qt W' :=
 ⟨h.b.step hb,h.v.below hb h.v.lt,h.r4.step hb,h.r.step hb,h.fo,h.ne⟩
theorem Tr18.put {w:World} {S:Sv14} {A0 A1 A2 A3 A4:Option Addr} {n0 n1 n2 n3 n4 c0 c1 c2 c3 c4:Nat} {sq:Int} {gb go g1 g2 g3 g4 j a b:Nat} {q qt:Nat→Nat × Nat} {W:World} (h:Tr18 w S A0 A1 A2 A3 A4 n0 n1 n2 n3 n4 c0 c1 c2 c3 c4 sq gb go g1 g2 g3 g4 q qt W) (hj:j < n2) {D1 D2:Option Addr} {k1 t1 k2 t2 L1 L2:Nat} (hx:Nv W L1 (.slice D1 k1 t1) a) (hy:Nv W L2 (.slice D2 k2 t2) b) :
  Tr18 w S A0 A1 A2 A3 A4 n0 n1 n2 n3 n4 c0 c1 c2 c3 c4 sq gb go g1 g2 g3 g4 (upd q j (a,b)) qt (putq18 W go j (.slice D1 k1 t1) (.slice D2 k2 t2)) :=
 ⟨h.b.low (below_putq18 (Below.refl _ _) h.fo _ _),h.v.putq18 (fun e => qr18_blk h.r h.v (by decide) e.symm) _ _,h.r4.far2 h.ne h.r hj _ _,h.r.put hj hx hy,h.fo,h.ne⟩
def Tx18 (w:World) (S:Sv14) (A0 A1 A2 A3 A4:Option Addr) (n0 n1 n2 n3 n4 c0 c1 c2 c3 c4:Nat) (sq:Int) (gb go g1 g2 g3 g4:Nat) (qt:Nat→Nat × Nat) (W:World):Prop:=∃ q,Tr18 w S A0 A1 A2 A3 A4 n0 n1 n2 n3 n4 c0 c1 c2 c3 c4 sq gb go g1 g2 g3 g4 q qt W
theorem Tx18.step {w:World} {S:Sv14} {A0 A1 A2 A3 A4:Option Addr} {n0 n1 n2 n3 n4 c0 c1 c2 c3 c4:Nat} {sq:Int} {gb go g1 g2 g3 g4:Nat} {qt:Nat→Nat × Nat} {W W':World} (h:Tx18 w S A0 A1 A2 A3 A4 n0 n1 n2 n3 n4 c0 c1 c2 c3 c4 sq gb go g1 g2 g3 g4 qt W) (hb:Below W.heap.size W W'):Tx18 w S A0 A1 A2 A3 A4 n0 n1 n2 n3 n4 c0 c1 c2 c3 c4 sq gb go g1 g2 g3 g4 qt W':=by
 obtain ⟨q,h⟩:=h
 exact ⟨q,h.step hb⟩
theorem Tx18.b {w:World} {S:Sv14} {A0 A1 A2 A3 A4:Option Addr} {n0 n1 n2 n3 n4 c0 c1 c2 c3 c4:Nat} {sq:Int} {gb go g1 g2 g3 g4:Nat} {qt:Nat→Nat × Nat} {W:World} (h:Tx18 w S A0 A1 A2 A3 A4 n0 n1 n2 n3 n4 c0 c1 c2 c3 c4 sq gb go g1 g2 g3 g4 qt W):By16 w S A0 A1 A2 A3 A4 n0 n1 n2 n3 n4 c0 c1 c2 c3 c4 sq W:=by
 obtain ⟨_,h⟩:=h
 exact h.b
theorem Tx18.v {w:World} {S:Sv14} {A0 A1 A2 A3 A4:Option Addr} {n0 n1 n2 n3 n4 c0 c1 c2 c3 c4:Nat} {sq:Int} {gb go g1 g2 g3 g4:Nat} {qt:Nat→Nat × Nat} {W:World} (h:Tx18 w S A0 A1 A2 A3 A4 n0 n1 n2 n3 n4 c0 c1 c2 c3 c4 sq gb go g1 g2 g3 g4 qt W):Blk W gb 69 #[.slice (some ⟨g1,0,none⟩) n1 n1,.slice (some ⟨g2,0,none⟩) n0 n0,.slice (some ⟨g3,0,none⟩) n0 n0,.slice (some ⟨g4,0,none⟩) n1 n1]:=by
 obtain ⟨_,h⟩:=h
 exact h.v
def ops18ts:{ o:Array Oper // (match Go.Func.body Tryz.f17 with | some c => regionOf17 c 1 | none => none) = some o }:=⟨_,rfl⟩
def ops18t:Array Oper:=ops18ts.1
section
variable {t0 t1 t2 t3 t4 t5 t6 t7 t8 t9 t10 t11 t12 t13 t14 t15 t16 t17 t18 t19 t20 t21 t22 t23 t24 t25 t26:Value}
variable {Q:Exit→Act→World→Prop}
set_option maxHeartbeats 16000000 in
theorem laidt18 {w wc:World} {S:Sv14} {A0 A1 A2 A3 A4:Option Addr} {n0 n1 n2 n3 n4 c0 c1 c2 c3 c4:Nat} {sq:Int} {wC wT:Nat→Rat} (hf:Fine14 S) (hw:Wo18 S wC wT) (hb:By16 w S A0 A1 A2 A3 A4 n0 n1 n2 n3 n4 c0 c1 c2 c3 c4 sq wc)
  (hP:∀ c a d v w,Q (.panic c) (Act.put a (some d) v) w→Q (.panic c) a w)
  (hQ:∀ (x6 x7 x8 x9 x10 x11:Value) (wn:World) (gb go g1 g2 g3 g4:Nat),Tr18 w S A0 A1 A2 A3 A4 n0 n1 n2 n3 n4 c0 c1 c2 c3 c4 sq gb go g1 g2 g3 g4 (fun _ => (0,0)) (fun k => qr18 (wT k)) wn→Q .normal { tmps:=#[(.agg #[.slice A0 n0 c0,.slice A1 n1 c1,.slice A2 n2 c2,.slice A3 n3 c3,.slice A4 n4 c4,.int .i64 sq]),.pointer (some ⟨w.heap.size,0,none⟩),.slice none 0 0,.pointer (some ⟨gb,0,none⟩),.slice (some ⟨go,0,none⟩) n2 n2,t5,x6,x7,x8,x9,x10,x11,t12,t13,t14,t15,t16,t17,t18,t19,t20,t21,t22,t23,t24,t25,t26],defers:=[] } wn) :
  (Code.region 1 ops18t true).wp Tryz.prog Q { tmps:=#[(.agg #[.slice A0 n0 c0,.slice A1 n1 c1,.slice A2 n2 c2,.slice A3 n3 c3,.slice A4 n4 c4,.int .i64 sq]),.pointer (some ⟨w.heap.size,0,none⟩),.slice none 0 0,t3,t4,t5,t6,t7,t8,t9,t10,t11,t12,t13,t14,t15,t16,t17,t18,t19,t20,t21,t22,t23,t24,t25,t26],defers:=[] } wc:=by
 have hm2:=hb.s.m2
 have hmk:=make_ratios18 n2 (by omega)
 have HL0:=Lib.hid hb.s.l0
 have HL1:=Lib.hid hb.s.l1
 have HRE:=Lib.hid (fun W (h:Bx14 w S A0 A1 A2 A3 A4 n0 n1 n2 n3 n4 c0 c1 c2 c3 c4 sq W) => reckoned18 (.agg #[.slice A0 n0 c0,.slice A1 n1 c1,.slice A2 n2 c2,.slice A3 n3 c3,.slice A4 n4 c4,.int .i64 sq]) S wC wT W h.st hf hw)
 have HXN:=Lib.hid (hb.step (Below.refl _ _).drew)
 clear hb hf hw hm2
 refine wp_region_held_drew (S:=By16 w S A0 A1 A2 A3 A4 n0 n1 n2 n3 n4 c0 c1 c2 c3 c4 sq) (by kernel_rfl) HXN.out (fun hHeld => ?_)
 change wpAnyH _ _ ops18t _ _ 9 #[false,false,false,false,false,false,false,false,false] _ _
 obtain ⟨wn,hwn⟩:∃ W,wc.drew = W:=⟨_,rfl⟩
 rw [hwn] at HXN hHeld
 rw [hwn]
 clear hwn
 have HBS:=HXN
 refine tkp hP 0 (v:=?_) (fun W hS => ?_) ?_
 rotate_left
 ·
  try dsimp only at hS
  have z0:=hS.b.x.cell 0
  have z1:=hS.b.x.cell 1
  have z2:=hS.b.x.cell 2
  have z3:=hS.b.x.cell 3
  have z4:=hS.b.x.cell 4
  have z5:=hS.b.x.cell 5
  go_simp
  try with_reducible rfl
 try simp only [Act.put,pt1,pt2,pt3]
 refine tkp hP 2 (v:=?_) (fun W hS => ?_) ?_
 rotate_left
 · (go_simp; try with_reducible rfl)
 try simp only [Act.put,pt1,pt2,pt3]
 refine tkp hP 3 (v:=?_) (fun W hS => ?_) ?_
 rotate_left
 ·
  try dsimp only at hS
  have z0:=hS.b.x.cell 2
  go_simp
  try with_reducible rfl
 try simp only [Act.put,pt1,pt2,pt3]
 refine tkp hP 4 (v:=?_) (fun W hS => ?_) ?_
 rotate_left
 · (go_simp; try with_reducible rfl)
 try simp only [Act.put,pt1,pt2,pt3]
 refine wpAnyH_ready (rs:=[1,5,6]) (by kernel_rfl) (by simp) (AllReadyH.cons (op_of rfl) (fun K hK => ?_) (AllReadyH.cons (op_of rfl) (fun K hK => ?_) (AllReadyH.cons (op_of rfl) (fun K hK => ?_) AllReadyH.nil)))
 ·
  skip
  have HBS0:=HBS
  go_simp
  refine (HRE.out _ HBS0.out.b).mono ?_
  rintro e wn ⟨g1,g2,g3,g4,rfl,h1,h2,h3,h4,hb⟩
  have HBS:=Lib.hid (HBS0.out.step hb)
  rw [HL0.out,HL1.out]
  rw [HL1.out] at h4
  have HQ4:=Lib.hid h4
  clear hb HBS0 h1 h2 h3 h4
  refine hK.out _ _ HBS.out (fun hHeld => ?_)
  clear hK K
  try simp only [Act.put,pt1,pt2,pt3]
  refine wpAnyH_ready (rs:=[5,6]) (by kernel_rfl) (by simp) (AllReadyH.cons (op_of rfl) (fun K hK => ?_) (AllReadyH.cons (op_of rfl) (fun K hK => ?_) AllReadyH.nil))
  ·
   skip
   have HNE:Hid (g4≠wn.heap.size):=Lib.hid (by have:=HQ4.out.lt; omega)
   have HBS0:=HBS
   have hb:=b1' wn (.cells (madeCells #[.slice none 0 0,.slice none 0 0] (n2 * 2)) 41)
   have HBS:=Lib.hid (HBS0.out.step hb)
   have HQ4:=Lib.hid (HQ4.out.step hb)
   have HR:=Lib.hid (made18 wn n2)
   have HFgo:Hid (w.heap.size + 1≤wn.heap.size):=Lib.hid (by have:=HBS0.out.b.x.lt; omega)
   clear hb HBS0
   obtain ⟨go,hgo⟩:∃ k,wn.heap.size = k:=⟨_,rfl⟩
   obtain ⟨wm,hwm⟩:∃ W,wn.alloc (.cells (madeCells #[.slice none 0 0,.slice none 0 0] (n2 * 2)) 41) = W:=⟨_,rfl⟩
   rw [hwm] at HBS HR HQ4
   rw [hgo] at HR HFgo HNE
   go_simp
   clear hgo hwm
   obtain ⟨wn,hwn⟩:∃ W,W = wm:=⟨_,rfl⟩
   subst hwn
   refine hK.out _ _ HBS.out (fun hHeld => ?_)
   clear hK K
   try simp only [Act.put,pt1,pt2,pt3]
   refine rdy 6 (fun K hK => ?_)
   have HBS0:=HBS
   have hb:=b1' wn (.cells #[.slice none 0 0,.slice none 0 0,.slice none 0 0,.slice none 0 0] 69)
   have HBS:=Lib.hid (HBS0.out.step hb)
   have HQ4:=Lib.hid (HQ4.out.step hb)
   have HR:=Lib.hid (HR.out.step hb)
   have HV:=Lib.hid (Blk.new wn 69 #[.slice none 0 0,.slice none 0 0,.slice none 0 0,.slice none 0 0])
   have HFgb:Hid (w.heap.size + 1≤wn.heap.size):=Lib.hid (by have:=HBS0.out.b.x.lt; omega)
   clear hb HBS0
   obtain ⟨gb,hgb⟩:∃ k,wn.heap.size = k:=⟨_,rfl⟩
   obtain ⟨wm,hwm⟩:∃ W,wn.alloc (.cells #[.slice none 0 0,.slice none 0 0,.slice none 0 0,.slice none 0 0] 69) = W:=⟨_,rfl⟩
   rw [hwm] at HBS HV HQ4 HR
   rw [hgb] at HV HFgb
   go_simp
   clear hgb hwm
   obtain ⟨wn,hwn⟩:∃ W,W = wm:=⟨_,rfl⟩
   subst hwn
   refine hK.out _ _ HBS.out (fun hHeld => ?_)
   clear hK K
   try simp only [Act.put,pt1,pt2,pt3]
   refine rdy 7 (fun K hK => ?_)
   have x0:=HV.out.cell 0
   have x1:=HV.out.cell 1
   have x2:=HV.out.cell 2
   have x3:=HV.out.cell 3
   have xf0:=HV.out.frozen 0
   have xf1:=HV.out.frozen 1
   have xf2:=HV.out.frozen 2
   have xf3:=HV.out.frozen 3
   have HBS0:=HBS
   go_simp
   obtain ⟨wm,hwm⟩:∃ W,(((wn.setCell ⟨gb,0,none⟩ (.slice (some ⟨g1,0,none⟩) n1 n1)).setCell ⟨gb,1,none⟩ (.slice (some ⟨g2,0,none⟩) n0 n0)).setCell ⟨gb,2,none⟩ (.slice (some ⟨g3,0,none⟩) n0 n0)).setCell ⟨gb,3,none⟩ (.slice (some ⟨g4,0,none⟩) n1 n1) = W:=⟨_,rfl⟩
   have hn4:=qr18_blk HQ4.out HV.out (by decide)
   have HQ4:=Lib.hid (show Qr18 wm g4 n1 _ by rw [← hwm]; exact HQ4.out.put4b hn4 HV.out _ _ _ _)
   have hnr:=qr18_blk HR.out HV.out (by decide)
   have HR:=Lib.hid (show Qr18 wm go n2 _ by rw [← hwm]; exact HR.out.put4b hnr HV.out _ _ _ _)
   clear hnr
   have hgb2:w.heap.size + 1≤gb:=HFgb.out
   have HBS:=Lib.hid (HBS0.out.low (W':=wm) (by rw [← hwm]; exact ((((Below.refl _ _).setCell hgb2 _).setCell hgb2 _).setCell hgb2 _).setCell hgb2 _))
   have HV:=Lib.hid (show Blk wm gb 69 #[.slice (some ⟨g1,0,none⟩) n1 n1,.slice (some ⟨g2,0,none⟩) n0 n0,.slice (some ⟨g3,0,none⟩) n0 n0,.slice (some ⟨g4,0,none⟩) n1 n1] by rw [← hwm]; exact put4b18_blk HV.out _ _ _ _)
   rw [hwm]
   clear hwm x0 x1 x2 x3 xf0 xf1 xf2 xf3 hn4 hgb2 HBS0
   obtain ⟨wn,hwn⟩:∃ W,W = wm:=⟨_,rfl⟩
   subst hwn
   refine hK.out _ _ HBS.out (fun hHeld => ?_)
   clear hK K
   try simp only [Act.put,pt1,pt2,pt3]
   refine rdy 8 (fun K hK => ?_)
   go_simp
   refine hK.out _ _ HBS.out (fun hHeld => ?_)
   clear hK K
   try simp only [Act.put,pt1,pt2,pt3]
   refine wpAnyH_done (by kernel_rfl) ?_ _
   clear hHeld
   exact hQ _ _ _ _ _ _ _ gb go g1 g2 g3 g4 ⟨HBS.out,HV.out,HQ4.out,HR.out,HFgo.out,HNE.out⟩
  ·
   skip
   have HBS0:=HBS
   have hb:=b1' wn (.cells #[.slice none 0 0,.slice none 0 0,.slice none 0 0,.slice none 0 0] 69)
   have HBS:=Lib.hid (HBS0.out.step hb)
   have HQ4:=Lib.hid (HQ4.out.step hb)
   have HV:=Lib.hid (Blk.new wn 69 #[.slice none 0 0,.slice none 0 0,.slice none 0 0,.slice none 0 0])
   have HFgb:Hid (w.heap.size + 1≤wn.heap.size):=Lib.hid (by have:=HBS0.out.b.x.lt; omega)
   clear hb HBS0
   obtain ⟨gb,hgb⟩:∃ k,wn.heap.size = k:=⟨_,rfl⟩
   obtain ⟨wm,hwm⟩:∃ W,wn.alloc (.cells #[.slice none 0 0,.slice none 0 0,.slice none 0 0,.slice none 0 0] 69) = W:=⟨_,rfl⟩
   rw [hwm] at HBS HV HQ4
   rw [hgb] at HV HFgb
   go_simp
   clear hgb hwm
   obtain ⟨wn,hwn⟩:∃ W,W = wm:=⟨_,rfl⟩
   subst hwn
   refine hK.out _ _ HBS.out (fun hHeld => ?_)
   clear hK K
   try simp only [Act.put,pt1,pt2,pt3]
   refine wpAnyH_ready (rs:=[5,7]) (by kernel_rfl) (by simp) (AllReadyH.cons (op_of rfl) (fun K hK => ?_) (AllReadyH.cons (op_of rfl) (fun K hK => ?_) AllReadyH.nil))
   ·
    skip
    have HNE:Hid (g4≠wn.heap.size):=Lib.hid (by have:=HQ4.out.lt; omega)
    have HBS0:=HBS
    have hb:=b1' wn (.cells (madeCells #[.slice none 0 0,.slice none 0 0] (n2 * 2)) 41)
    have HBS:=Lib.hid (HBS0.out.step hb)
    have HQ4:=Lib.hid (HQ4.out.step hb)
    have HV:=Lib.hid (HV.out.below hb HV.out.lt)
    have HR:=Lib.hid (made18 wn n2)
    have HFgo:Hid (w.heap.size + 1≤wn.heap.size):=Lib.hid (by have:=HBS0.out.b.x.lt; omega)
    clear hb HBS0
    obtain ⟨go,hgo⟩:∃ k,wn.heap.size = k:=⟨_,rfl⟩
    obtain ⟨wm,hwm⟩:∃ W,wn.alloc (.cells (madeCells #[.slice none 0 0,.slice none 0 0] (n2 * 2)) 41) = W:=⟨_,rfl⟩
    rw [hwm] at HBS HR HQ4 HV
    rw [hgo] at HR HFgo HNE
    go_simp
    clear hgo hwm
    obtain ⟨wn,hwn⟩:∃ W,W = wm:=⟨_,rfl⟩
    subst hwn
    refine hK.out _ _ HBS.out (fun hHeld => ?_)
    clear hK K
    try simp only [Act.put,pt1,pt2,pt3]
    refine rdy 7 (fun K hK => ?_)
    have x0:=HV.out.cell 0
    have x1:=HV.out.cell 1
    have x2:=HV.out.cell 2
    have x3:=HV.out.cell 3
    have xf0:=HV.out.frozen 0
    have xf1:=HV.out.frozen 1
    have xf2:=HV.out.frozen 2
    have xf3:=HV.out.frozen 3
    have HBS0:=HBS
    go_simp
    obtain ⟨wm,hwm⟩:∃ W,(((wn.setCell ⟨gb,0,none⟩ (.slice (some ⟨g1,0,none⟩) n1 n1)).setCell ⟨gb,1,none⟩ (.slice (some ⟨g2,0,none⟩) n0 n0)).setCell ⟨gb,2,none⟩ (.slice (some ⟨g3,0,none⟩) n0 n0)).setCell ⟨gb,3,none⟩ (.slice (some ⟨g4,0,none⟩) n1 n1) = W:=⟨_,rfl⟩
    have hn4:=qr18_blk HQ4.out HV.out (by decide)
    have HQ4:=Lib.hid (show Qr18 wm g4 n1 _ by rw [← hwm]; exact HQ4.out.put4b hn4 HV.out _ _ _ _)
    have hnr:=qr18_blk HR.out HV.out (by decide)
    have HR:=Lib.hid (show Qr18 wm go n2 _ by rw [← hwm]; exact HR.out.put4b hnr HV.out _ _ _ _)
    clear hnr
    have hgb2:w.heap.size + 1≤gb:=HFgb.out
    have HBS:=Lib.hid (HBS0.out.low (W':=wm) (by rw [← hwm]; exact ((((Below.refl _ _).setCell hgb2 _).setCell hgb2 _).setCell hgb2 _).setCell hgb2 _))
    have HV:=Lib.hid (show Blk wm gb 69 #[.slice (some ⟨g1,0,none⟩) n1 n1,.slice (some ⟨g2,0,none⟩) n0 n0,.slice (some ⟨g3,0,none⟩) n0 n0,.slice (some ⟨g4,0,none⟩) n1 n1] by rw [← hwm]; exact put4b18_blk HV.out _ _ _ _)
    rw [hwm]
    clear hwm x0 x1 x2 x3 xf0 xf1 xf2 xf3 hn4 hgb2 HBS0
    obtain ⟨wn,hwn⟩:∃ W,W = wm:=⟨_,rfl⟩
    subst hwn
    refine hK.out _ _ HBS.out (fun hHeld => ?_)
    clear hK K
    try simp only [Act.put,pt1,pt2,pt3]
    refine rdy 8 (fun K hK => ?_)
    go_simp
    refine hK.out _ _ HBS.out (fun hHeld => ?_)
    clear hK K
    try simp only [Act.put,pt1,pt2,pt3]
    refine wpAnyH_done (by kernel_rfl) ?_ _
    clear hHeld
    exact hQ _ _ _ _ _ _ _ gb go g1 g2 g3 g4 ⟨HBS.out,HV.out,HQ4.out,HR.out,HFgo.out,HNE.out⟩
   ·
    skip
    have x0:=HV.out.cell 0
    have x1:=HV.out.cell 1
    have x2:=HV.out.cell 2
    have x3:=HV.out.cell 3
    have xf0:=HV.out.frozen 0
    have xf1:=HV.out.frozen 1
    have xf2:=HV.out.frozen 2
    have xf3:=HV.out.frozen 3
    have HBS0:=HBS
    go_simp
    obtain ⟨wm,hwm⟩:∃ W,(((wn.setCell ⟨gb,0,none⟩ (.slice (some ⟨g1,0,none⟩) n1 n1)).setCell ⟨gb,1,none⟩ (.slice (some ⟨g2,0,none⟩) n0 n0)).setCell ⟨gb,2,none⟩ (.slice (some ⟨g3,0,none⟩) n0 n0)).setCell ⟨gb,3,none⟩ (.slice (some ⟨g4,0,none⟩) n1 n1) = W:=⟨_,rfl⟩
    have hn4:=qr18_blk HQ4.out HV.out (by decide)
    have HQ4:=Lib.hid (show Qr18 wm g4 n1 _ by rw [← hwm]; exact HQ4.out.put4b hn4 HV.out _ _ _ _)
    have hgb2:w.heap.size + 1≤gb:=HFgb.out
    have HBS:=Lib.hid (HBS0.out.low (W':=wm) (by rw [← hwm]; exact ((((Below.refl _ _).setCell hgb2 _).setCell hgb2 _).setCell hgb2 _).setCell hgb2 _))
    have HV:=Lib.hid (show Blk wm gb 69 #[.slice (some ⟨g1,0,none⟩) n1 n1,.slice (some ⟨g2,0,none⟩) n0 n0,.slice (some ⟨g3,0,none⟩) n0 n0,.slice (some ⟨g4,0,none⟩) n1 n1] by rw [← hwm]; exact put4b18_blk HV.out _ _ _ _)
    rw [hwm]
    clear hwm x0 x1 x2 x3 xf0 xf1 xf2 xf3 hn4 hgb2 HBS0
    obtain ⟨wn,hwn⟩:∃ W,W = wm:=⟨_,rfl⟩
    subst hwn
    refine hK.out _ _ HBS.out (fun hHeld => ?_)
    clear hK K
    try simp only [Act.put,pt1,pt2,pt3]
    refine rdy 5 (fun K hK => ?_)
    have HNE:Hid (g4≠wn.heap.size):=Lib.hid (by have:=HQ4.out.lt; omega)
    have HBS0:=HBS
    have hb:=b1' wn (.cells (madeCells #[.slice none 0 0,.slice none 0 0] (n2 * 2)) 41)
    have HBS:=Lib.hid (HBS0.out.step hb)
    have HQ4:=Lib.hid (HQ4.out.step hb)
    have HV:=Lib.hid (HV.out.below hb HV.out.lt)
    have HR:=Lib.hid (made18 wn n2)
    have HFgo:Hid (w.heap.size + 1≤wn.heap.size):=Lib.hid (by have:=HBS0.out.b.x.lt; omega)
    clear hb HBS0
    obtain ⟨go,hgo⟩:∃ k,wn.heap.size = k:=⟨_,rfl⟩
    obtain ⟨wm,hwm⟩:∃ W,wn.alloc (.cells (madeCells #[.slice none 0 0,.slice none 0 0] (n2 * 2)) 41) = W:=⟨_,rfl⟩
    rw [hwm] at HBS HR HQ4 HV
    rw [hgo] at HR HFgo HNE
    go_simp
    clear hgo hwm
    obtain ⟨wn,hwn⟩:∃ W,W = wm:=⟨_,rfl⟩
    subst hwn
    refine hK.out _ _ HBS.out (fun hHeld => ?_)
    clear hK K
    try simp only [Act.put,pt1,pt2,pt3]
    refine rdy 8 (fun K hK => ?_)
    go_simp
    refine hK.out _ _ HBS.out (fun hHeld => ?_)
    clear hK K
    try simp only [Act.put,pt1,pt2,pt3]
    refine wpAnyH_done (by kernel_rfl) ?_ _
    clear hHeld
    exact hQ _ _ _ _ _ _ _ gb go g1 g2 g3 g4 ⟨HBS.out,HV.out,HQ4.out,HR.out,HFgo.out,HNE.out⟩
 ·
  skip
  have HBS0:=HBS
  have hb:=b1' wn (.cells (madeCells #[.slice none 0 0,.slice none 0 0] (n2 * 2)) 41)
  have HBS:=Lib.hid (HBS0.out.step hb)
  have HR:=Lib.hid (made18 wn n2)
  have HFgo:Hid (w.heap.size + 1≤wn.heap.size):=Lib.hid (by have:=HBS0.out.b.x.lt; omega)
  clear hb HBS0
  obtain ⟨go,hgo⟩:∃ k,wn.heap.size = k:=⟨_,rfl⟩
  obtain ⟨wm,hwm⟩:∃ W,wn.alloc (.cells (madeCells #[.slice none 0 0,.slice none 0 0] (n2 * 2)) 41) = W:=⟨_,rfl⟩
  rw [hwm] at HBS HR
  rw [hgo] at HR HFgo
  go_simp
  clear hgo hwm
  obtain ⟨wn,hwn⟩:∃ W,W = wm:=⟨_,rfl⟩
  subst hwn
  refine hK.out _ _ HBS.out (fun hHeld => ?_)
  clear hK K
  try simp only [Act.put,pt1,pt2,pt3]
  refine wpAnyH_ready (rs:=[1,6]) (by kernel_rfl) (by simp) (AllReadyH.cons (op_of rfl) (fun K hK => ?_) (AllReadyH.cons (op_of rfl) (fun K hK => ?_) AllReadyH.nil))
  ·
   skip
   have HBS0:=HBS
   go_simp
   refine (HRE.out _ HBS0.out.b).mono ?_
   have hlr:=HR.out.lt
   rintro e wn ⟨g1,g2,g3,g4,rfl,h1,h2,h3,h4,hb⟩
   have HBS:=Lib.hid (HBS0.out.step hb)
   have HR:=Lib.hid (HR.out.step hb)
   rw [HL0.out,HL1.out]
   rw [HL1.out] at h4
   have HQ4:=Lib.hid h4
   have HNE:Hid (g4≠go):=Lib.hid (by have:=hlr; omega)
   clear hb HBS0 h1 h2 h3 h4 hlr
   refine hK.out _ _ HBS.out (fun hHeld => ?_)
   clear hK K
   try simp only [Act.put,pt1,pt2,pt3]
   refine rdy 6 (fun K hK => ?_)
   have HBS0:=HBS
   have hb:=b1' wn (.cells #[.slice none 0 0,.slice none 0 0,.slice none 0 0,.slice none 0 0] 69)
   have HBS:=Lib.hid (HBS0.out.step hb)
   have HQ4:=Lib.hid (HQ4.out.step hb)
   have HR:=Lib.hid (HR.out.step hb)
   have HV:=Lib.hid (Blk.new wn 69 #[.slice none 0 0,.slice none 0 0,.slice none 0 0,.slice none 0 0])
   have HFgb:Hid (w.heap.size + 1≤wn.heap.size):=Lib.hid (by have:=HBS0.out.b.x.lt; omega)
   clear hb HBS0
   obtain ⟨gb,hgb⟩:∃ k,wn.heap.size = k:=⟨_,rfl⟩
   obtain ⟨wm,hwm⟩:∃ W,wn.alloc (.cells #[.slice none 0 0,.slice none 0 0,.slice none 0 0,.slice none 0 0] 69) = W:=⟨_,rfl⟩
   rw [hwm] at HBS HV HQ4 HR
   rw [hgb] at HV HFgb
   go_simp
   clear hgb hwm
   obtain ⟨wn,hwn⟩:∃ W,W = wm:=⟨_,rfl⟩
   subst hwn
   refine hK.out _ _ HBS.out (fun hHeld => ?_)
   clear hK K
   try simp only [Act.put,pt1,pt2,pt3]
   refine rdy 7 (fun K hK => ?_)
   have x0:=HV.out.cell 0
   have x1:=HV.out.cell 1
   have x2:=HV.out.cell 2
   have x3:=HV.out.cell 3
   have xf0:=HV.out.frozen 0
   have xf1:=HV.out.frozen 1
   have xf2:=HV.out.frozen 2
   have xf3:=HV.out.frozen 3
   have HBS0:=HBS
   go_simp
   obtain ⟨wm,hwm⟩:∃ W,(((wn.setCell ⟨gb,0,none⟩ (.slice (some ⟨g1,0,none⟩) n1 n1)).setCell ⟨gb,1,none⟩ (.slice (some ⟨g2,0,none⟩) n0 n0)).setCell ⟨gb,2,none⟩ (.slice (some ⟨g3,0,none⟩) n0 n0)).setCell ⟨gb,3,none⟩ (.slice (some ⟨g4,0,none⟩) n1 n1) = W:=⟨_,rfl⟩
   have hn4:=qr18_blk HQ4.out HV.out (by decide)
   have HQ4:=Lib.hid (show Qr18 wm g4 n1 _ by rw [← hwm]; exact HQ4.out.put4b hn4 HV.out _ _ _ _)
   have hnr:=qr18_blk HR.out HV.out (by decide)
   have HR:=Lib.hid (show Qr18 wm go n2 _ by rw [← hwm]; exact HR.out.put4b hnr HV.out _ _ _ _)
   clear hnr
   have hgb2:w.heap.size + 1≤gb:=HFgb.out
   have HBS:=Lib.hid (HBS0.out.low (W':=wm) (by rw [← hwm]; exact ((((Below.refl _ _).setCell hgb2 _).setCell hgb2 _).setCell hgb2 _).setCell hgb2 _))
   have HV:=Lib.hid (show Blk wm gb 69 #[.slice (some ⟨g1,0,none⟩) n1 n1,.slice (some ⟨g2,0,none⟩) n0 n0,.slice (some ⟨g3,0,none⟩) n0 n0,.slice (some ⟨g4,0,none⟩) n1 n1] by rw [← hwm]; exact put4b18_blk HV.out _ _ _ _)
   rw [hwm]
   clear hwm x0 x1 x2 x3 xf0 xf1 xf2 xf3 hn4 hgb2 HBS0
   obtain ⟨wn,hwn⟩:∃ W,W = wm:=⟨_,rfl⟩
   subst hwn
   refine hK.out _ _ HBS.out (fun hHeld => ?_)
   clear hK K
   try simp only [Act.put,pt1,pt2,pt3]
   refine rdy 8 (fun K hK => ?_)
   go_simp
   refine hK.out _ _ HBS.out (fun hHeld => ?_)
   clear hK K
   try simp only [Act.put,pt1,pt2,pt3]
   refine wpAnyH_done (by kernel_rfl) ?_ _
   clear hHeld
   exact hQ _ _ _ _ _ _ _ gb go g1 g2 g3 g4 ⟨HBS.out,HV.out,HQ4.out,HR.out,HFgo.out,HNE.out⟩
  ·
   skip
   have HBS0:=HBS
   have hb:=b1' wn (.cells #[.slice none 0 0,.slice none 0 0,.slice none 0 0,.slice none 0 0] 69)
   have HBS:=Lib.hid (HBS0.out.step hb)
   have HR:=Lib.hid (HR.out.step hb)
   have HV:=Lib.hid (Blk.new wn 69 #[.slice none 0 0,.slice none 0 0,.slice none 0 0,.slice none 0 0])
   have HFgb:Hid (w.heap.size + 1≤wn.heap.size):=Lib.hid (by have:=HBS0.out.b.x.lt; omega)
   clear hb HBS0
   obtain ⟨gb,hgb⟩:∃ k,wn.heap.size = k:=⟨_,rfl⟩
   obtain ⟨wm,hwm⟩:∃ W,wn.alloc (.cells #[.slice none 0 0,.slice none 0 0,.slice none 0 0,.slice none 0 0] 69) = W:=⟨_,rfl⟩
   rw [hwm] at HBS HV HR
   rw [hgb] at HV HFgb
   go_simp
   clear hgb hwm
   obtain ⟨wn,hwn⟩:∃ W,W = wm:=⟨_,rfl⟩
   subst hwn
   refine hK.out _ _ HBS.out (fun hHeld => ?_)
   clear hK K
   try simp only [Act.put,pt1,pt2,pt3]
   refine rdy 1 (fun K hK => ?_)
   have HBS0:=HBS
   go_simp
   refine (HRE.out _ HBS0.out.b).mono ?_
   have hlr:=HR.out.lt
   rintro e wn ⟨g1,g2,g3,g4,rfl,h1,h2,h3,h4,hb⟩
   have HBS:=Lib.hid (HBS0.out.step hb)
   have HR:=Lib.hid (HR.out.step hb)
   have HV:=Lib.hid (HV.out.below hb HV.out.lt)
   rw [HL0.out,HL1.out]
   rw [HL1.out] at h4
   have HQ4:=Lib.hid h4
   have HNE:Hid (g4≠go):=Lib.hid (by have:=hlr; omega)
   clear hb HBS0 h1 h2 h3 h4 hlr
   refine hK.out _ _ HBS.out (fun hHeld => ?_)
   clear hK K
   try simp only [Act.put,pt1,pt2,pt3]
   refine rdy 7 (fun K hK => ?_)
   have x0:=HV.out.cell 0
   have x1:=HV.out.cell 1
   have x2:=HV.out.cell 2
   have x3:=HV.out.cell 3
   have xf0:=HV.out.frozen 0
   have xf1:=HV.out.frozen 1
   have xf2:=HV.out.frozen 2
   have xf3:=HV.out.frozen 3
   have HBS0:=HBS
   go_simp
   obtain ⟨wm,hwm⟩:∃ W,(((wn.setCell ⟨gb,0,none⟩ (.slice (some ⟨g1,0,none⟩) n1 n1)).setCell ⟨gb,1,none⟩ (.slice (some ⟨g2,0,none⟩) n0 n0)).setCell ⟨gb,2,none⟩ (.slice (some ⟨g3,0,none⟩) n0 n0)).setCell ⟨gb,3,none⟩ (.slice (some ⟨g4,0,none⟩) n1 n1) = W:=⟨_,rfl⟩
   have hn4:=qr18_blk HQ4.out HV.out (by decide)
   have HQ4:=Lib.hid (show Qr18 wm g4 n1 _ by rw [← hwm]; exact HQ4.out.put4b hn4 HV.out _ _ _ _)
   have hnr:=qr18_blk HR.out HV.out (by decide)
   have HR:=Lib.hid (show Qr18 wm go n2 _ by rw [← hwm]; exact HR.out.put4b hnr HV.out _ _ _ _)
   clear hnr
   have hgb2:w.heap.size + 1≤gb:=HFgb.out
   have HBS:=Lib.hid (HBS0.out.low (W':=wm) (by rw [← hwm]; exact ((((Below.refl _ _).setCell hgb2 _).setCell hgb2 _).setCell hgb2 _).setCell hgb2 _))
   have HV:=Lib.hid (show Blk wm gb 69 #[.slice (some ⟨g1,0,none⟩) n1 n1,.slice (some ⟨g2,0,none⟩) n0 n0,.slice (some ⟨g3,0,none⟩) n0 n0,.slice (some ⟨g4,0,none⟩) n1 n1] by rw [← hwm]; exact put4b18_blk HV.out _ _ _ _)
   rw [hwm]
   clear hwm x0 x1 x2 x3 xf0 xf1 xf2 xf3 hn4 hgb2 HBS0
   obtain ⟨wn,hwn⟩:∃ W,W = wm:=⟨_,rfl⟩
   subst hwn
   refine hK.out _ _ HBS.out (fun hHeld => ?_)
   clear hK K
   try simp only [Act.put,pt1,pt2,pt3]
   refine rdy 8 (fun K hK => ?_)
   go_simp
   refine hK.out _ _ HBS.out (fun hHeld => ?_)
   clear hK K
   try simp only [Act.put,pt1,pt2,pt3]
   refine wpAnyH_done (by kernel_rfl) ?_ _
   clear hHeld
   exact hQ _ _ _ _ _ _ _ gb go g1 g2 g3 g4 ⟨HBS.out,HV.out,HQ4.out,HR.out,HFgo.out,HNE.out⟩
 ·
  skip
  have HBS0:=HBS
  have hb:=b1' wn (.cells #[.slice none 0 0,.slice none 0 0,.slice none 0 0,.slice none 0 0] 69)
  have HBS:=Lib.hid (HBS0.out.step hb)
  have HV:=Lib.hid (Blk.new wn 69 #[.slice none 0 0,.slice none 0 0,.slice none 0 0,.slice none 0 0])
  have HFgb:Hid (w.heap.size + 1≤wn.heap.size):=Lib.hid (by have:=HBS0.out.b.x.lt; omega)
  clear hb HBS0
  obtain ⟨gb,hgb⟩:∃ k,wn.heap.size = k:=⟨_,rfl⟩
  obtain ⟨wm,hwm⟩:∃ W,wn.alloc (.cells #[.slice none 0 0,.slice none 0 0,.slice none 0 0,.slice none 0 0] 69) = W:=⟨_,rfl⟩
  rw [hwm] at HBS HV
  rw [hgb] at HV HFgb
  go_simp
  clear hgb hwm
  obtain ⟨wn,hwn⟩:∃ W,W = wm:=⟨_,rfl⟩
  subst hwn
  refine hK.out _ _ HBS.out (fun hHeld => ?_)
  clear hK K
  try simp only [Act.put,pt1,pt2,pt3]
  refine wpAnyH_ready (rs:=[1,5]) (by kernel_rfl) (by simp) (AllReadyH.cons (op_of rfl) (fun K hK => ?_) (AllReadyH.cons (op_of rfl) (fun K hK => ?_) AllReadyH.nil))
  ·
   skip
   have HBS0:=HBS
   go_simp
   refine (HRE.out _ HBS0.out.b).mono ?_
   rintro e wn ⟨g1,g2,g3,g4,rfl,h1,h2,h3,h4,hb⟩
   have HBS:=Lib.hid (HBS0.out.step hb)
   have HV:=Lib.hid (HV.out.below hb HV.out.lt)
   rw [HL0.out,HL1.out]
   rw [HL1.out] at h4
   have HQ4:=Lib.hid h4
   clear hb HBS0 h1 h2 h3 h4
   refine hK.out _ _ HBS.out (fun hHeld => ?_)
   clear hK K
   try simp only [Act.put,pt1,pt2,pt3]
   refine wpAnyH_ready (rs:=[5,7]) (by kernel_rfl) (by simp) (AllReadyH.cons (op_of rfl) (fun K hK => ?_) (AllReadyH.cons (op_of rfl) (fun K hK => ?_) AllReadyH.nil))
   ·
    skip
    have HNE:Hid (g4≠wn.heap.size):=Lib.hid (by have:=HQ4.out.lt; omega)
    have HBS0:=HBS
    have hb:=b1' wn (.cells (madeCells #[.slice none 0 0,.slice none 0 0] (n2 * 2)) 41)
    have HBS:=Lib.hid (HBS0.out.step hb)
    have HQ4:=Lib.hid (HQ4.out.step hb)
    have HV:=Lib.hid (HV.out.below hb HV.out.lt)
    have HR:=Lib.hid (made18 wn n2)
    have HFgo:Hid (w.heap.size + 1≤wn.heap.size):=Lib.hid (by have:=HBS0.out.b.x.lt; omega)
    clear hb HBS0
    obtain ⟨go,hgo⟩:∃ k,wn.heap.size = k:=⟨_,rfl⟩
    obtain ⟨wm,hwm⟩:∃ W,wn.alloc (.cells (madeCells #[.slice none 0 0,.slice none 0 0] (n2 * 2)) 41) = W:=⟨_,rfl⟩
    rw [hwm] at HBS HR HQ4 HV
    rw [hgo] at HR HFgo HNE
    go_simp
    clear hgo hwm
    obtain ⟨wn,hwn⟩:∃ W,W = wm:=⟨_,rfl⟩
    subst hwn
    refine hK.out _ _ HBS.out (fun hHeld => ?_)
    clear hK K
    try simp only [Act.put,pt1,pt2,pt3]
    refine rdy 7 (fun K hK => ?_)
    have x0:=HV.out.cell 0
    have x1:=HV.out.cell 1
    have x2:=HV.out.cell 2
    have x3:=HV.out.cell 3
    have xf0:=HV.out.frozen 0
    have xf1:=HV.out.frozen 1
    have xf2:=HV.out.frozen 2
    have xf3:=HV.out.frozen 3
    have HBS0:=HBS
    go_simp
    obtain ⟨wm,hwm⟩:∃ W,(((wn.setCell ⟨gb,0,none⟩ (.slice (some ⟨g1,0,none⟩) n1 n1)).setCell ⟨gb,1,none⟩ (.slice (some ⟨g2,0,none⟩) n0 n0)).setCell ⟨gb,2,none⟩ (.slice (some ⟨g3,0,none⟩) n0 n0)).setCell ⟨gb,3,none⟩ (.slice (some ⟨g4,0,none⟩) n1 n1) = W:=⟨_,rfl⟩
    have hn4:=qr18_blk HQ4.out HV.out (by decide)
    have HQ4:=Lib.hid (show Qr18 wm g4 n1 _ by rw [← hwm]; exact HQ4.out.put4b hn4 HV.out _ _ _ _)
    have hnr:=qr18_blk HR.out HV.out (by decide)
    have HR:=Lib.hid (show Qr18 wm go n2 _ by rw [← hwm]; exact HR.out.put4b hnr HV.out _ _ _ _)
    clear hnr
    have hgb2:w.heap.size + 1≤gb:=HFgb.out
    have HBS:=Lib.hid (HBS0.out.low (W':=wm) (by rw [← hwm]; exact ((((Below.refl _ _).setCell hgb2 _).setCell hgb2 _).setCell hgb2 _).setCell hgb2 _))
    have HV:=Lib.hid (show Blk wm gb 69 #[.slice (some ⟨g1,0,none⟩) n1 n1,.slice (some ⟨g2,0,none⟩) n0 n0,.slice (some ⟨g3,0,none⟩) n0 n0,.slice (some ⟨g4,0,none⟩) n1 n1] by rw [← hwm]; exact put4b18_blk HV.out _ _ _ _)
    rw [hwm]
    clear hwm x0 x1 x2 x3 xf0 xf1 xf2 xf3 hn4 hgb2 HBS0
    obtain ⟨wn,hwn⟩:∃ W,W = wm:=⟨_,rfl⟩
    subst hwn
    refine hK.out _ _ HBS.out (fun hHeld => ?_)
    clear hK K
    try simp only [Act.put,pt1,pt2,pt3]
    refine rdy 8 (fun K hK => ?_)
    go_simp
    refine hK.out _ _ HBS.out (fun hHeld => ?_)
    clear hK K
    try simp only [Act.put,pt1,pt2,pt3]
    refine wpAnyH_done (by kernel_rfl) ?_ _
    clear hHeld
    exact hQ _ _ _ _ _ _ _ gb go g1 g2 g3 g4 ⟨HBS.out,HV.out,HQ4.out,HR.out,HFgo.out,HNE.out⟩
   ·
    skip
    have x0:=HV.out.cell 0
    have x1:=HV.out.cell 1
    have x2:=HV.out.cell 2
    have x3:=HV.out.cell 3
    have xf0:=HV.out.frozen 0
    have xf1:=HV.out.frozen 1
    have xf2:=HV.out.frozen 2
    have xf3:=HV.out.frozen 3
    have HBS0:=HBS
    go_simp
    obtain ⟨wm,hwm⟩:∃ W,(((wn.setCell ⟨gb,0,none⟩ (.slice (some ⟨g1,0,none⟩) n1 n1)).setCell ⟨gb,1,none⟩ (.slice (some ⟨g2,0,none⟩) n0 n0)).setCell ⟨gb,2,none⟩ (.slice (some ⟨g3,0,none⟩) n0 n0)).setCell ⟨gb,3,none⟩ (.slice (some ⟨g4,0,none⟩) n1 n1) = W:=⟨_,rfl⟩
    have hn4:=qr18_blk HQ4.out HV.out (by decide)
    have HQ4:=Lib.hid (show Qr18 wm g4 n1 _ by rw [← hwm]; exact HQ4.out.put4b hn4 HV.out _ _ _ _)
    have hgb2:w.heap.size + 1≤gb:=HFgb.out
    have HBS:=Lib.hid (HBS0.out.low (W':=wm) (by rw [← hwm]; exact ((((Below.refl _ _).setCell hgb2 _).setCell hgb2 _).setCell hgb2 _).setCell hgb2 _))
    have HV:=Lib.hid (show Blk wm gb 69 #[.slice (some ⟨g1,0,none⟩) n1 n1,.slice (some ⟨g2,0,none⟩) n0 n0,.slice (some ⟨g3,0,none⟩) n0 n0,.slice (some ⟨g4,0,none⟩) n1 n1] by rw [← hwm]; exact put4b18_blk HV.out _ _ _ _)
    rw [hwm]
    clear hwm x0 x1 x2 x3 xf0 xf1 xf2 xf3 hn4 hgb2 HBS0
    obtain ⟨wn,hwn⟩:∃ W,W = wm:=⟨_,rfl⟩
    subst hwn
    refine hK.out _ _ HBS.out (fun hHeld => ?_)
    clear hK K
    try simp only [Act.put,pt1,pt2,pt3]
    refine rdy 5 (fun K hK => ?_)
    have HNE:Hid (g4≠wn.heap.size):=Lib.hid (by have:=HQ4.out.lt; omega)
    have HBS0:=HBS
    have hb:=b1' wn (.cells (madeCells #[.slice none 0 0,.slice none 0 0] (n2 * 2)) 41)
    have HBS:=Lib.hid (HBS0.out.step hb)
    have HQ4:=Lib.hid (HQ4.out.step hb)
    have HV:=Lib.hid (HV.out.below hb HV.out.lt)
    have HR:=Lib.hid (made18 wn n2)
    have HFgo:Hid (w.heap.size + 1≤wn.heap.size):=Lib.hid (by have:=HBS0.out.b.x.lt; omega)
    clear hb HBS0
    obtain ⟨go,hgo⟩:∃ k,wn.heap.size = k:=⟨_,rfl⟩
    obtain ⟨wm,hwm⟩:∃ W,wn.alloc (.cells (madeCells #[.slice none 0 0,.slice none 0 0] (n2 * 2)) 41) = W:=⟨_,rfl⟩
    rw [hwm] at HBS HR HQ4 HV
    rw [hgo] at HR HFgo HNE
    go_simp
    clear hgo hwm
    obtain ⟨wn,hwn⟩:∃ W,W = wm:=⟨_,rfl⟩
    subst hwn
    refine hK.out _ _ HBS.out (fun hHeld => ?_)
    clear hK K
    try simp only [Act.put,pt1,pt2,pt3]
    refine rdy 8 (fun K hK => ?_)
    go_simp
    refine hK.out _ _ HBS.out (fun hHeld => ?_)
    clear hK K
    try simp only [Act.put,pt1,pt2,pt3]
    refine wpAnyH_done (by kernel_rfl) ?_ _
    clear hHeld
    exact hQ _ _ _ _ _ _ _ gb go g1 g2 g3 g4 ⟨HBS.out,HV.out,HQ4.out,HR.out,HFgo.out,HNE.out⟩
  ·
   skip
   have HBS0:=HBS
   have hb:=b1' wn (.cells (madeCells #[.slice none 0 0,.slice none 0 0] (n2 * 2)) 41)
   have HBS:=Lib.hid (HBS0.out.step hb)
   have HV:=Lib.hid (HV.out.below hb HV.out.lt)
   have HR:=Lib.hid (made18 wn n2)
   have HFgo:Hid (w.heap.size + 1≤wn.heap.size):=Lib.hid (by have:=HBS0.out.b.x.lt; omega)
   clear hb HBS0
   obtain ⟨go,hgo⟩:∃ k,wn.heap.size = k:=⟨_,rfl⟩
   obtain ⟨wm,hwm⟩:∃ W,wn.alloc (.cells (madeCells #[.slice none 0 0,.slice none 0 0] (n2 * 2)) 41) = W:=⟨_,rfl⟩
   rw [hwm] at HBS HR HV
   rw [hgo] at HR HFgo
   go_simp
   clear hgo hwm
   obtain ⟨wn,hwn⟩:∃ W,W = wm:=⟨_,rfl⟩
   subst hwn
   refine hK.out _ _ HBS.out (fun hHeld => ?_)
   clear hK K
   try simp only [Act.put,pt1,pt2,pt3]
   refine rdy 1 (fun K hK => ?_)
   have HBS0:=HBS
   go_simp
   refine (HRE.out _ HBS0.out.b).mono ?_
   have hlr:=HR.out.lt
   rintro e wn ⟨g1,g2,g3,g4,rfl,h1,h2,h3,h4,hb⟩
   have HBS:=Lib.hid (HBS0.out.step hb)
   have HR:=Lib.hid (HR.out.step hb)
   have HV:=Lib.hid (HV.out.below hb HV.out.lt)
   rw [HL0.out,HL1.out]
   rw [HL1.out] at h4
   have HQ4:=Lib.hid h4
   have HNE:Hid (g4≠go):=Lib.hid (by have:=hlr; omega)
   clear hb HBS0 h1 h2 h3 h4 hlr
   refine hK.out _ _ HBS.out (fun hHeld => ?_)
   clear hK K
   try simp only [Act.put,pt1,pt2,pt3]
   refine rdy 7 (fun K hK => ?_)
   have x0:=HV.out.cell 0
   have x1:=HV.out.cell 1
   have x2:=HV.out.cell 2
   have x3:=HV.out.cell 3
   have xf0:=HV.out.frozen 0
   have xf1:=HV.out.frozen 1
   have xf2:=HV.out.frozen 2
   have xf3:=HV.out.frozen 3
   have HBS0:=HBS
   go_simp
   obtain ⟨wm,hwm⟩:∃ W,(((wn.setCell ⟨gb,0,none⟩ (.slice (some ⟨g1,0,none⟩) n1 n1)).setCell ⟨gb,1,none⟩ (.slice (some ⟨g2,0,none⟩) n0 n0)).setCell ⟨gb,2,none⟩ (.slice (some ⟨g3,0,none⟩) n0 n0)).setCell ⟨gb,3,none⟩ (.slice (some ⟨g4,0,none⟩) n1 n1) = W:=⟨_,rfl⟩
   have hn4:=qr18_blk HQ4.out HV.out (by decide)
   have HQ4:=Lib.hid (show Qr18 wm g4 n1 _ by rw [← hwm]; exact HQ4.out.put4b hn4 HV.out _ _ _ _)
   have hnr:=qr18_blk HR.out HV.out (by decide)
   have HR:=Lib.hid (show Qr18 wm go n2 _ by rw [← hwm]; exact HR.out.put4b hnr HV.out _ _ _ _)
   clear hnr
   have hgb2:w.heap.size + 1≤gb:=HFgb.out
   have HBS:=Lib.hid (HBS0.out.low (W':=wm) (by rw [← hwm]; exact ((((Below.refl _ _).setCell hgb2 _).setCell hgb2 _).setCell hgb2 _).setCell hgb2 _))
   have HV:=Lib.hid (show Blk wm gb 69 #[.slice (some ⟨g1,0,none⟩) n1 n1,.slice (some ⟨g2,0,none⟩) n0 n0,.slice (some ⟨g3,0,none⟩) n0 n0,.slice (some ⟨g4,0,none⟩) n1 n1] by rw [← hwm]; exact put4b18_blk HV.out _ _ _ _)
   rw [hwm]
   clear hwm x0 x1 x2 x3 xf0 xf1 xf2 xf3 hn4 hgb2 HBS0
   obtain ⟨wn,hwn⟩:∃ W,W = wm:=⟨_,rfl⟩
   subst hwn
   refine hK.out _ _ HBS.out (fun hHeld => ?_)
   clear hK K
   try simp only [Act.put,pt1,pt2,pt3]
   refine rdy 8 (fun K hK => ?_)
   go_simp
   refine hK.out _ _ HBS.out (fun hHeld => ?_)
   clear hK K
   try simp only [Act.put,pt1,pt2,pt3]
   refine wpAnyH_done (by kernel_rfl) ?_ _
   clear hHeld
   exact hQ _ _ _ _ _ _ _ gb go g1 g2 g3 g4 ⟨HBS.out,HV.out,HQ4.out,HR.out,HFgo.out,HNE.out⟩
end
set_option maxHeartbeats 8000000 in
theorem threads18 (v:Value) (S:Sv14) (wC wT:Nat→Rat) (w:World) (h:St14 w v S) (hf:Fine14 S) (hw:Wo18 S wC wT) :
  Calls Tryz.prog 17 #[v] w (RetQs18 w S.H.length (fun i => qr18 (th18 S wT i))):=by
 obtain ⟨A0,A1,A2,A3,A4,n0,n1,n2,n3,n4,c0,c1,c2,c3,c4,sq,rfl,hs⟩:=h
 have HP:Hid (RetQs18 w S.H.length (fun i => qr18 (th18 S wT i)) = fun e w' => ∃ g,e = .returned (.slice (some ⟨g,0,none⟩) n2 n2)∧w.heap.size≤g∧Qr18 w' g n2 (fun i => qr18 (th18 S wT i))∧Below w.heap.size w w'):=Lib.hid (by unfold RetQs18; rw [hs.l2])
 obtain ⟨hfc,hft,_⟩:=hw.fits hf
 obtain ⟨_,hwt⟩:=hw.small hf
 have hx0:By16 w S A0 A1 A2 A3 A4 n0 n1 n2 n3 n4 c0 c1 c2 c3 c4 sq _:=⟨Bx14.new hs,hs⟩
 obtain ⟨W1,hW1⟩:∃ W,w.alloc (.cells #[.slice A0 n0 c0,.slice A1 n1 c1,.slice A2 n2 c2,.slice A3 n3 c3,.slice A4 n4 c4,.int .i64 sq] 28) = W:=⟨_,rfl⟩
 rw [hW1] at hx0
 have HX0:=Lib.hid hx0
 have HF:=Lib.hid hf
 have HWO:=Lib.hid hw
 have HFT:Hid (∀ c,Sm18 (qr18 (wT c))):=Lib.hid hft
 have HWN:Hid (∀ k,0≤wT k):=Lib.hid (fun k => (hwt k).2.1)
 have HOF:=Lib.hid (fun (i:Int) W (h:Bx14 w S A0 A1 A2 A3 A4 n0 n1 n2 n3 n4 c0 c1 c2 c3 c4 sq W) => of15 (.agg #[.slice A0 n0 c0,.slice A1 n1 c1,.slice A2 n2 c2,.slice A3 n3 c3,.slice A4 n4 c4,.int .i64 sq]) S i W h.st)
 have HL1:=Lib.hid hs.l1
 have hm2:=hs.m2
 clear hs hx0 hf hw hfc hft hwt
 go_enter Tryz.func17,Tryz.ntmps17
 go_upto_region 1 with (fail)
 try rw [hW1]
 refine laidt18 HF.out HWO.out HX0.out (fun _ _ _ _ _ h => h) (fun x6 x7 x8 x9 x10 x11 wn gb go g1 g2 g3 g4 htr => ?_)
 have HT0:=Lib.hid htr
 clear htr HX0 hW1
 go_wp2_with fail
 go_loopw [14] (fun i wr => ∃ (k:Nat) (q:Nat→Nat × Nat),i = .int .i64 (k:Int)∧k≤n2∧Hid (∀ j,j < k→q j = qr18 (th18 S wT j))∧Hid (Tr18 w S A0 A1 A2 A3 A4 n0 n1 n2 n3 n4 c0 c1 c2 c3 c4 sq gb go g1 g2 g3 g4 q (fun k => qr18 (wT k)) wr)) (fun i _ => n2 - (intOf i).toNat)
 case atStart => exact ⟨0,_,rfl,by omega,Lib.hid (fun j hj => by omega),HT0⟩
 case round =>
  clear HT0
  obtain ⟨k,q,rfl,hk,HM,HT⟩:=hrel
  by_cases hkn:k < n2
  ·
   have i0:(0:Int)≤(k:Int):=by omega
   have i1:(k:Int) < (n2:Int):=by omega
   obtain ⟨l,hl⟩:∃ l,ofs15 S (k:Int) = l:=⟨_,rfl⟩
   have HOK:=Lib.hid (HOF.out (k:Int))
   rw [hl] at HOK
   obtain ⟨m,hm⟩:∃ m,l.length = m:=⟨_,rfl⟩
   have HLM:=Lib.hid hm
   have hth:=th18_ofs (wT:=wT) HF.out.2.2.2.2.1 k
   rw [hl,hm] at hth
   have hlm:m≤100:=by
    have h1:=tks15_len S (fnd15 1 (k:Int)) S.T.length
    have h2:S.T.length≤96:=HF.out.2.2.1.2.1.1
    rw [← hm,← hl]
    unfold ofs15
    split
    · omega
    · simp
   have hlx:∀ x,x∈l→x < n1:=fun x hx => by
    rw [← hl] at hx
    unfold ofs15 at hx
    split at hx
    ·
     have:=(tks15_mem.1 hx).1
     have h2:=HL1.out
     omega
    · simp at hx
   have HTG:Hid (∀ A ca W,Tx18 w S A0 A1 A2 A3 A4 n0 n1 n2 n3 n4 c0 c1 c2 c3 c4 sq gb go g1 g2 g3 g4 (fun k => qr18 (wT k)) W→Rd W W.heap.size A l→Calls Tryz.prog 40 #[.agg #[.slice (some ⟨g1,0,none⟩) n1 n1,.slice (some ⟨g2,0,none⟩) n0 n0,.slice (some ⟨g3,0,none⟩) n0 n0,.slice (some ⟨g4,0,none⟩) n1 n1],.slice A m ca] W (RetQ W (qr18 (th18 S wT k)).1 (qr18 (th18 S wT k)).2)):=Lib.hid (fun A ca W ⟨_,h⟩ hr => by
    have h1:=together18 (some ⟨g1,0,none⟩) (some ⟨g2,0,none⟩) (some ⟨g3,0,none⟩) n1 n1 n0 n0 n0 n0 g4 n1 A l m ca (fun k => qr18 (wT k)) W h.r4 hm hr hlx (fun k _ => HFT.out k) hlm
    rw [fold18_range l m HWN.out,← hth] at h1
    exact h1)
   have HAD:=Lib.hid (HT.out.step (Below.refl _ wr).drew)
   have HQA:Hid (Tx18 w S A0 A1 A2 A3 A4 n0 n1 n2 n3 n4 c0 c1 c2 c3 c4 sq gb go g1 g2 g3 g4 (fun k => qr18 (wT k)) wr):=Lib.hid ⟨_,HT.out⟩
   have HMN:Hid (∀ j,j < k + 1→upd q k ((qr18 (th18 S wT k)).1,(qr18 (th18 S wT k)).2) j = qr18 (th18 S wT j)):=Lib.hid (fun j hj => by
    by_cases e:j = k
    · subst e; rw [upd_at]
    · rw [upd_far _ _ e]; exact HM.out j (by omega))
   obtain ⟨u1,hu1⟩:∃ u,(qr18 (th18 S wT k)).1 = u:=⟨_,rfl⟩
   obtain ⟨u2,hu2⟩:∃ u,(qr18 (th18 S wT k)).2 = u:=⟨_,rfl⟩
   rw [hu1,hu2] at HTG HMN
   clear hl hm hth hlx hlm HT HM hu1 hu2
   have HXN:Hid (Tx18 w S A0 A1 A2 A3 A4 n0 n1 n2 n3 n4 c0 c1 c2 c3 c4 sq gb go g1 g2 g3 g4 (fun k => qr18 (wT k)) wr.drew):=Lib.hid (HQA.out.step (Below.refl _ _).drew)
   clear HQA
   obtain ⟨wn,hwn⟩:∃ W,wr.drew = W:=⟨_,rfl⟩
   rw [hwn] at HXN HAD
   go_wp2_with fail
   refine wp_region_held_drew (S:=Tx18 w S A0 A1 A2 A3 A4 n0 n1 n2 n3 n4 c0 c1 c2 c3 c4 sq gb go g1 g2 g3 g4 (fun k => qr18 (wT k))) (by kernel_rfl) (by rw [hwn]; exact HXN.out) (fun hHeld => ?_)
   rw [hwn] at hHeld ⊢
   clear hwn
   have HBS:=HXN
   refine tk 0 (v:=?_) (fun W hS => ?_) ?_
   rotate_left
   · (go_simp; try with_reducible rfl)
   try simp only [Act.put,pt1,pt2,pt3]
   refine tk 1 (v:=?_) (fun W hS => ?_) ?_
   rotate_left
   · (go_simp; try with_reducible rfl)
   try simp only [Act.put,pt1,pt2,pt3]
   refine tk 2 (v:=?_) (fun W hS => ?_) ?_
   rotate_left
   ·
    try dsimp only at hS
    have z0:=hS.v.cell 0
    have z1:=hS.v.cell 1
    have z2:=hS.v.cell 2
    have z3:=hS.v.cell 3
    go_simp
    try with_reducible rfl
   try simp only [Act.put,pt1,pt2,pt3]
   refine tk 3 (v:=?_) (fun W hS => ?_) ?_
   rotate_left
   ·
    try dsimp only at hS
    have z0:=hS.b.b.x.cell 0
    have z1:=hS.b.b.x.cell 1
    have z2:=hS.b.b.x.cell 2
    have z3:=hS.b.b.x.cell 3
    have z4:=hS.b.b.x.cell 4
    have z5:=hS.b.b.x.cell 5
    go_simp
    try with_reducible rfl
   try simp only [Act.put,pt1,pt2,pt3]
   refine tk 4 (v:=?_) (fun W hS => ?_) ?_
   rotate_left
   · (go_simp; try with_reducible rfl)
   try simp only [Act.put,pt1,pt2,pt3]
   refine rdy 5 (fun K hK => ?_)
   have HBS0:=HBS
   go_simp
   refine (HOK.out _ HBS0.out.b.b).mono ?_
   rintro e wn ⟨A,ca,rfl,hr,hb⟩
   have HBS:=Lib.hid (HBS0.out.step hb)
   have HAD:=Lib.hid (HAD.out.step hb)
   rw [HLM.out]
   have HRO:=Lib.hid hr
   clear hb HBS0 hr
   refine hK.out _ _ HBS.out (fun hHeld => ?_)
   clear hK K
   try simp only [Act.put,pt1,pt2,pt3]
   refine rdy 6 (fun K hK => ?_)
   have HBS0:=HBS
   go_simp
   refine (HTG.out A ca _ HBS0.out HRO.out).mono ?_
   rintro e wn ⟨E1,j1,o1,E2,j2,o2,rfl,hx,hy,hb⟩
   have HBS:=Lib.hid (HBS0.out.step hb)
   have HAD:=Lib.hid (HAD.out.step hb)
   have HX:=Lib.hid hx
   have HY:=Lib.hid hy
   clear hb HBS0 hx hy HRO
   refine hK.out _ _ HBS.out (fun hHeld => ?_)
   clear hK K
   try simp only [Act.put,pt1,pt2,pt3]
   refine tk 7 (v:=?_) (fun W hS => ?_) ?_
   rotate_left
   · (go_simp; try with_reducible rfl)
   try simp only [Act.put,pt1,pt2,pt3]
   refine rdy 8 (fun K hK => ?_)
   obtain ⟨_,_,_,_,_,_,y1,y2,_,_,yf1,yf2⟩:=HAD.out.r.cells (k:=k) (by omega)
   have HAD0:=HAD
   go_simp
   obtain ⟨wm,hwm⟩:∃ W,(wn.setCell ⟨go,k * 2,none⟩ (.slice E1 j1 o1)).setCell ⟨go,k * 2 + 1,none⟩ (.slice E2 j2 o2) = W:=⟨_,rfl⟩
   have HAD:Hid (Tr18 w S A0 A1 A2 A3 A4 n0 n1 n2 n3 n4 c0 c1 c2 c3 c4 sq gb go g1 g2 g3 g4 (upd q k (u1,u2)) (fun k => qr18 (wT k)) wm):=Lib.hid (by rw [← hwm]; exact HAD0.out.put (by omega) HX.out HY.out)
   have HBS:Hid (Tx18 w S A0 A1 A2 A3 A4 n0 n1 n2 n3 n4 c0 c1 c2 c3 c4 sq gb go g1 g2 g3 g4 (fun k => qr18 (wT k)) wm):=Lib.hid ⟨_,HAD.out⟩
   rw [hwm]
   clear hwm y1 y2 yf1 yf2 HAD0 HX HY
   obtain ⟨wn,hwn⟩:∃ W,W = wm:=⟨_,rfl⟩
   subst hwn
   refine hK.out _ _ HBS.out (fun hHeld => ?_)
   clear hK K
   try simp only [Act.put,pt1,pt2,pt3]
   refine wpAnyH_done (by kernel_rfl) ?_ _
   clear hHeld
   have HN:=HAD
   clear HXN HTG HOK HBS HAD
   go_wp2_with fail
   go_roundw
   case rel => exact ⟨k + 1,_,by go_num,by omega,HMN,HN⟩
   case measure => simp [intOf]; omega
  ·
   obtain rfl:n2 = k:=by omega
   have i1:¬ (n2:Int) < (n2:Int):=by omega
   go_wp2_with fail
   go_ret
   rw [HP.out]
   exact ⟨_,rfl,by have:=HT.out.fo; omega,HT.out.r.congr HM.out,HT.out.b.b.b⟩
set_option maxHeartbeats 4000000 in
theorem ticketw18_no (v:Value) (S:Sv14) (k:Int) (w:World) (h:St14 w v S) (hu:us14 usT S.T k = false) :
  Calls Tryz.prog 12 #[v,.int .i64 k] w (RetQ w 0 1):=by
 obtain ⟨A0,A1,A2,A3,A4,n0,n1,n2,n3,n4,c0,c1,c2,c3,c4,sq,rfl,hs⟩:=h
 have hx0:=Bx14.new hs
 obtain ⟨W1,hW1⟩:∃ W,w.alloc (.cells #[.slice A0 n0 c0,.slice A1 n1 c1,.slice A2 n2 c2,.slice A3 n3 c3,.slice A4 n4 c4,.int .i64 sq] 28) = W:=⟨_,rfl⟩
 have hz1:W1.heap.size = w.heap.size + 1:=by rw [← hW1]; simp
 rw [hW1] at hx0
 have hb2:=b1' W1 (.cells #[.slice none 0 0,.slice none 0 0] 41)
 have hk2:=Blk.new W1 41 #[.slice none 0 0,.slice none 0 0]
 obtain ⟨W2,hW2⟩:∃ W,W1.alloc (.cells #[.slice none 0 0,.slice none 0 0] 41) = W:=⟨_,rfl⟩
 rw [hW2,hz1] at hk2
 rw [hW2] at hb2
 have hx2:=hx0.step hb2
 have HX2:=Lib.hid hx2
 have HO2:=Lib.hid hk2
 have hl2:=hk2.lt
 have x0:=hx2.x.cell 0
 have x1:=hx2.x.cell 1
 have x2:=hx2.x.cell 2
 have x3:=hx2.x.cell 3
 have x4:=hx2.x.cell 4
 have x5:=hx2.x.cell 5
 obtain ⟨x,hx⟩:∃ x,at14 usT S.T k = x:=⟨_,rfl⟩
 obtain ⟨xu,xc,xa,xk,xt,xo⟩:=x
 have HTI:=Lib.hid (fun W (h:Bx14 w S A0 A1 A2 A3 A4 n0 n1 n2 n3 n4 c0 c1 c2 c3 c4 sq W) => ticket14 (.agg #[.slice A0 n0 c0,.slice A1 n1 c1,.slice A2 n2 c2,.slice A3 n3 c3,.slice A4 n4 c4,.int .i64 sq]) S k xu xc xa xk xt xo false W h.st hu hx)
 clear hs hx0 hb2 hk2 hx2 hu hx
 go_enter Tryz.func12,Tryz.ntmps12
 go_wp2_with fail
 refine (HTI.out _ HX2.out).mono ?_
 rintro e w3 ⟨rfl,hb3⟩
 have hb4:=hb3.trans ((b1' w3 (.cells #[.bool xu,.int .i64 xc,.int .i64 xa,.int .i64 xk,.int .i64 xt,.bool xo] 53)).mono hb3.size)
 have HX3:=Lib.hid (HX2.out.step hb4)
 have HO3:=Lib.hid (HO2.out.below hb4 hl2)
 clear hb3 hb4 HTI HX2 HO2 x0 x1 x2 x3 x4 x5
 go_wp2_with fail
 refine (ratioZero_r _).mono ?_
 rintro e w4 ⟨A1,i1,t1,A2,i2,t2,rfl,hx,hy,hb4⟩
 have HX4:=Lib.hid (HX3.out.step hb4)
 have HO4:=Lib.hid (HO3.out.below hb4 HO3.out.lt)
 have hl3:=HO3.out.lt
 have HX:=Lib.hid hx
 have HY:=Lib.hid hy
 have r0:=HO4.out.cell 0
 have r1:=HO4.out.cell 1
 have f0:=HO4.out.frozen 0
 have f1:=HO4.out.frozen 1
 clear hx hy hb4 HX3 HO3 hW1 hW2
 try rw [hz1]
 clear hz1
 go_wp2_with fail
 have hp:=put_q HO4.out (.slice A1 i1 t1) (.slice A2 i2 t2)
 exact bodyPost_ret (v:=.agg #[.slice A1 i1 t1,.slice A2 i2 t2]) (by simp [results,Tryz.results12,go_sem,hp.cell 0,hp.cell 1]) rfl
  ⟨_,_,_,_,_,_,rfl,(HX.out.put_q hl3 _ _).more (by omega),(HY.out.put_q hl3 _ _).more (by omega),(HX4.out.b.setCell (by show w.heap.size≤w.heap.size + 1; omega) _).setCell (by show w.heap.size≤w.heap.size + 1; omega) _⟩
def RetQ0 (w:World) (n d:Nat) (e:Ending) (w':World):Prop:=∃ A1 n1 c1 A2 n2 c2,e = .returned (.agg #[.slice A1 n1 c1,.slice A2 n2 c2])∧Nv w' 0 (.slice A1 n1 c1) n∧Nv w' 0 (.slice A2 n2 c2) d∧Below w.heap.size w w'
set_option maxHeartbeats 4000000 in
theorem ticketw18_yes (v:Value) (S:Sv14) (wC wT:Nat→Rat) (k:Nat) (w:World) (h:St14 w v S) (hf:Fine14 S) (hw:Wo18 S wC wT) (hk:k < S.T.length) (hu:us14 usT S.T (k:Int) = true) :
  Calls Tryz.prog 12 #[v,.int .i64 (k:Int)] w (RetQ0 w (qr18 (wT k)).1 (qr18 (wT k)).2):=by
 obtain ⟨A0,A1,A2,A3,A4,n0,n1,n2,n3,n4,c0,c1,c2,c3,c4,sq,rfl,hs⟩:=h
 have hx0:=Bx14.new hs
 obtain ⟨W1,hW1⟩:∃ W,w.alloc (.cells #[.slice A0 n0 c0,.slice A1 n1 c1,.slice A2 n2 c2,.slice A3 n3 c3,.slice A4 n4 c4,.int .i64 sq] 28) = W:=⟨_,rfl⟩
 have hz1:W1.heap.size = w.heap.size + 1:=by rw [← hW1]; simp
 rw [hW1] at hx0
 have hb2:=b1' W1 (.cells #[.slice none 0 0,.slice none 0 0] 41)
 have hk2:=Blk.new W1 41 #[.slice none 0 0,.slice none 0 0]
 obtain ⟨W2,hW2⟩:∃ W,W1.alloc (.cells #[.slice none 0 0,.slice none 0 0] 41) = W:=⟨_,rfl⟩
 rw [hW2,hz1] at hk2
 rw [hW2] at hb2
 have hx2:=hx0.step hb2
 have HX2:=Lib.hid hx2
 have HO2:=Lib.hid hk2
 have hl2:=hk2.lt
 have x0:=hx2.x.cell 0
 have x1:=hx2.x.cell 1
 have x2:=hx2.x.cell 2
 have x3:=hx2.x.cell 3
 have x4:=hx2.x.cell 4
 have x5:=hx2.x.cell 5
 obtain ⟨x,hx⟩:∃ x,at14 usT S.T (k:Int) = x:=⟨_,rfl⟩
 obtain ⟨xu,xc,xa,xk,xt,xo⟩:=x
 have HTI:=Lib.hid (fun W (h:Bx14 w S A0 A1 A2 A3 A4 n0 n1 n2 n3 n4 c0 c1 c2 c3 c4 sq W) => ticket14 (.agg #[.slice A0 n0 c0,.slice A1 n1 c1,.slice A2 n2 c2,.slice A3 n3 c3,.slice A4 n4 c4,.int .i64 sq]) S (k:Int) xu xc xa xk xt xo true W h.st hu hx)
 have HTS:=Lib.hid (fun W (h:Bx14 w S A0 A1 A2 A3 A4 n0 n1 n2 n3 n4 c0 c1 c2 c3 c4 sq W) => tickets18w (.agg #[.slice A0 n0 c0,.slice A1 n1 c1,.slice A2 n2 c2,.slice A3 n3 c3,.slice A4 n4 c4,.int .i64 sq]) S wC wT W h.st hf hw)
 obtain ⟨u1,hu1⟩:∃ u,(qr18 (wT k)).1 = u:=⟨_,rfl⟩
 obtain ⟨u2,hu2⟩:∃ u,(qr18 (wT k)).2 = u:=⟨_,rfl⟩
 have HU:=Lib.hid (And.intro hu1 hu2)
 rw [hu1,hu2]
 have HK:=Lib.hid hk
 have HL1:=Lib.hid hs.l1
 have i0:(0:Int)≤(k:Int):=by omega
 have i1:(k:Int) < (n1:Int):=by have:=hs.l1; omega
 clear hs hx0 hb2 hk2 hx2 hu hx hf hw hk hu1 hu2
 go_enter Tryz.func12,Tryz.ntmps12
 go_wp2_with fail
 refine (HTI.out _ HX2.out).mono ?_
 rintro e w3 ⟨rfl,hb3⟩
 have hb4:=hb3.trans ((b1' w3 (.cells #[.bool xu,.int .i64 xc,.int .i64 xa,.int .i64 xk,.int .i64 xt,.bool xo] 53)).mono hb3.size)
 have HX3:=Lib.hid (HX2.out.step hb4)
 have HO3:=Lib.hid (HO2.out.below hb4 hl2)
 have hx3:=HX3.out.x
 have y0:=hx3.cell 0
 have y1:=hx3.cell 1
 have y2:=hx3.cell 2
 have y3:=hx3.cell 3
 have y4:=hx3.cell 4
 have y5:=hx3.cell 5
 clear hx3 hb3 hb4 HTI HX2 HO2 x0 x1 x2 x3 x4 x5
 go_wp2_with fail
 refine (HTS.out _ HX3.out).mono ?_
 rintro e w4 ⟨g,rfl,hg,hr,hb4⟩
 rw [HL1.out] at hr ⊢
 obtain ⟨C1,k1,r1,C2,k2,r2,e1,e2,v1,v2,_,_⟩:=hr.cells (k:=k) (by have:=HK.out; have:=HL1.out; omega)
 rw [HU.out.1] at v1
 rw [HU.out.2] at v2
 have HX4:=Lib.hid (HX3.out.step hb4)
 have HO4:=Lib.hid (HO3.out.below hb4 HO3.out.lt)
 have HX:=Lib.hid v1
 have HY:=Lib.hid v2
 have q0:=HO4.out.cell 0
 have q1:=HO4.out.cell 1
 have f0:=HO4.out.frozen 0
 have f1:=HO4.out.frozen 1
 have hq1:((w4.setCell ⟨w.heap.size + 1,0,none⟩ (.slice C1 k1 r1))).cell? ⟨w.heap.size + 1,1,none⟩ = some (.slice none 0 0):=(World.cell?_setCell_other _ _ _ _ (by intro e; injection e; omega)).trans q1
 clear hr hg v1 v2 hb4 HX3 HO3 HTS HU HK hW1 hW2 y0 y1 y2 y3 y4 y5
 try rw [hz1]
 clear hz1
 go_wp2_with fail
 have hp:=put_q HO4.out (.slice C1 k1 r1) (.slice C2 k2 r2)
 exact bodyPost_ret (v:=.agg #[.slice C1 k1 r1,.slice C2 k2 r2]) (by simp [results,Tryz.results12,go_sem,hp.cell 0,hp.cell 1]) rfl
  ⟨_,_,_,_,_,_,rfl,(HX.out.setS q0).setS hq1,(HY.out.setS q0).setS hq1,(HX4.out.b.setCell (by show w.heap.size≤w.heap.size + 1; omega) _).setCell (by show w.heap.size≤w.heap.size + 1; omega) _⟩
def exS18:Sv14:=⟨[true,true],[⟨true,0,10,2,1,true⟩,⟨true,1,1,1,0,true⟩,⟨true,1,2,1,1,true⟩],[⟨2,-1,-1,1,1⟩,⟨2,-1,-1,1,1⟩],[],[],5⟩
theorem exs18_us0:us14 usC exS18.C 0 = true:=by decide +kernel
theorem exs18_us1:us14 usC exS18.C 1 = true:=by decide +kernel
theorem exs18_uh0:us14 usH exS18.H 0 = true:=by decide +kernel
theorem exs18_uh1:us14 usH exS18.H 1 = true:=by decide +kernel
theorem exs18_n0:nxt16 exS18 0 = -1:=by decide +kernel
theorem exs18_n1:nxt16 exS18 1 = -1:=by decide +kernel
theorem exs18_ca:cut13 2 (cArr14 exS18 3) = [(0,1)]:=by decide +kernel
theorem exs18_ta:cut13 2 (tArr14 exS18 2) = []:=by decide +kernel
theorem exs18_done0:Done13 [] 2 [0,1]:=by
 refine ⟨.next (os:=[0]) (.next (os:=[]) .nil ⟨by decide,by decide,fun f hf => by cases hf⟩ (fun j hj => by omega)) ⟨by decide,by decide,fun f hf => by cases hf⟩ (fun j hj h => ?_),fun i h => ?_⟩
 ·
  obtain rfl:j = 0:=by omega
  exact h.2.1 (by simp)
 ·
  have h1:=h.1
  have h2:=h.2.1
  simp at h2
  omega
theorem exs18_done2:Done13 [(0,1)] 2 [0,1]:=by
 refine ⟨.next (os:=[0]) (.next (os:=[]) .nil ⟨by decide,by decide,fun f hf => by simp at hf⟩ (fun j hj => by omega)) ⟨by decide,by decide,fun f hf => ?_⟩ (fun j hj h => ?_),fun i h => ?_⟩
 ·
  simp at hf
  simp [hf]
 ·
  obtain rfl:j = 0:=by omega
  exact h.2.1 (by simp)
 ·
  have h1:=h.1
  have h2:=h.2.1
  simp at h2
  omega
theorem exs18_fine:Fine14 exS18:=by
 refine ⟨by decide,by decide,⟨⟨by decide,by decide,fun j hj h => ?_⟩,⟨by decide,by decide,fun j hj h => ?_⟩,⟨by decide,by decide,fun j hj h => ?_⟩,⟨by decide,by decide,(fun j hj => by cases hj)⟩⟩,by decide +kernel,fun j hj _ => ?_,⟨fun j hj _ => ?_,by decide⟩,(fun j hj => by cases hj),⟨by decide,fun j hj h => ?_,?_⟩,⟨[0,1],?_,rfl⟩,⟨[0,1],?_,rfl⟩⟩
 ·
  match j,hj with
  | 0,_ => cases h
  | 1,_ => cases h
 ·
  match j,hj with
  | 0,_ => cases h
  | 1,_ => cases h
  | 2,_ => cases h
 ·
  match j,hj with
  | 0,_ => cases h
  | 1,_ => cases h
 ·
  match j,hj with
  | 0,_ => exact ⟨exs18_us0,by decide,by decide,.inr (.inr ⟨rfl,by decide,exs18_us1⟩)⟩
  | 1,_ => exact ⟨exs18_us1,by decide,by decide,.inr (.inl ⟨rfl,exs18_uh0⟩)⟩
  | 2,_ => exact ⟨exs18_us1,by decide,by decide,.inr (.inl ⟨rfl,exs18_uh1⟩)⟩
 ·
  match j,hj with
  | 0,_ => exact ⟨.inr (.inr ⟨.inr (.inl rfl),rfl⟩),.inl rfl,.inl ⟨rfl,rfl⟩⟩
  | 1,_ => exact ⟨.inr (.inr ⟨.inr (.inl rfl),rfl⟩),.inl rfl,.inl ⟨rfl,rfl⟩⟩
 ·
  match j,hj with
  | 0,_ => intro g; cases g.1
  | 1,_ => intro g; cases g.1
 · decide +kernel
 ·
  show Done13 (cut13 2 (cArr14 exS18 3)) 2 [0,1]
  rw [exs18_ca]
  exact exs18_done2
 ·
  show Done13 (cut13 2 (tArr14 exS18 2)) 2 [0,1]
  rw [exs18_ta]
  exact exs18_done0
theorem exs18_c1:Cnt17 exS18 1:=.thr (by decide) rfl rfl rfl ⟨0,[0],rfl,exs18_uh0,.one exs18_n0,.inl (by decide +kernel)⟩
theorem exs18_c2:Cnt17 exS18 2:=.thr (by decide) rfl rfl rfl ⟨1,[1],rfl,exs18_uh1,.one exs18_n1,.inl (by decide +kernel)⟩
theorem exs18_c0:Cnt17 exS18 0:=.coin (j:=1) (by decide) rfl rfl rfl rfl exs18_c1
theorem exs18_a1:amt17 exS18 1 3 = 3:=by
 rw [amt17,amt17,amt17,amt17,cntb17_yes.2 exs18_c0,cntb17_yes.2 exs18_c1,cntb17_yes.2 exs18_c2]
 decide +kernel
theorem exs18_w {wC wT:Nat→Rat} (h:Wo18 exS18 wC wT):wT 0 = 10∧wT 1 = (10:Rat) / 3∧wT 2 = (20:Rat) / 3:=by
 have h0:wT 0 = 10:=by
  rw [h.t,if_pos (cntb17_yes.2 exs18_c0),if_pos (show (gt14 exS18.T 0).c = 0 from rfl),show (gt14 exS18.T 0).a = 10 from rfl]
  rfl
 have g0:(gt14 exS18.T 0).u = true∧(gt14 exS18.T 0).k = 2∧(gt14 exS18.T 0).t = ((1:Nat):Int):=⟨rfl,rfl,rfl⟩
 have g1:¬ ((gt14 exS18.T 1).u = true∧(gt14 exS18.T 1).k = 2∧(gt14 exS18.T 1).t = ((1:Nat):Int)):=fun g => by have:=g.2.1; revert this; decide
 have g2:¬ ((gt14 exS18.T 2).u = true∧(gt14 exS18.T 2).k = 2∧(gt14 exS18.T 2).t = ((1:Nat):Int)):=fun g => by have:=g.2.1; revert this; decide
 have hc:wC 1 = 10:=by
  rw [h.c,if_neg (by decide),show exS18.T.length = 3 from rfl,sumR,sumR,sumR,sumR,if_pos g0,if_neg g1,if_neg g2,h0]
  grind
 refine ⟨h0,?_,?_⟩
 ·
  rw [h.t,if_pos (cntb17_yes.2 exs18_c1),if_neg (show (gt14 exS18.T 1).c≠0 by decide),show (gt14 exS18.T 1).c = 1 from rfl,show (gt14 exS18.T 1).a = 1 from rfl,show exS18.T.length = 3 from rfl,exs18_a1,show (1:Int).toNat = 1 from rfl,hc]
  have e1:((1:Int):Rat) = 1:=rfl
  have e3:((3:Int):Rat) = 3:=rfl
  rw [e1,e3]
  grind
 ·
  rw [h.t,if_pos (cntb17_yes.2 exs18_c2),if_neg (show (gt14 exS18.T 2).c≠0 by decide),show (gt14 exS18.T 2).c = 1 from rfl,show (gt14 exS18.T 2).a = 2 from rfl,show exS18.T.length = 3 from rfl,exs18_a1,show (1:Int).toNat = 1 from rfl,hc]
  have e2:((2:Int):Rat) = 2:=rfl
  have e3:((3:Int):Rat) = 3:=rfl
  rw [e2,e3]
  grind
theorem exs18_q1:qr18 ((10:Rat) / 3) = (10,3):=(qr18_of (q:=(10,3)) ⟨by decide,by decide⟩ rfl).symm
theorem exs18_q2:qr18 ((20:Rat) / 3) = (20,3):=(qr18_of (q:=(20,3)) ⟨by decide,by decide⟩ rfl).symm
theorem exs18_th {wC wT:Nat→Rat} (h:Wo18 exS18 wC wT):th18 exS18 wT 0 = (10:Rat) / 3∧th18 exS18 wT 1 = (20:Rat) / 3:=by
 obtain ⟨h0,h1,h2⟩:=exs18_w h
 have a0:∀ i:Int,¬ ((gt14 exS18.T 0).u = true∧(gt14 exS18.T 0).k = 1∧(gt14 exS18.T 0).t = i):=fun i g => by have:=g.2.1; revert this; decide
 have b1:(gt14 exS18.T 1).u = true∧(gt14 exS18.T 1).k = 1∧(gt14 exS18.T 1).t = ((0:Nat):Int):=⟨rfl,rfl,rfl⟩
 have b2:¬ ((gt14 exS18.T 2).u = true∧(gt14 exS18.T 2).k = 1∧(gt14 exS18.T 2).t = ((0:Nat):Int)):=fun g => by have:=g.2.2; revert this; decide
 have d1:¬ ((gt14 exS18.T 1).u = true∧(gt14 exS18.T 1).k = 1∧(gt14 exS18.T 1).t = ((1:Nat):Int)):=fun g => by have:=g.2.2; revert this; decide
 have d2:(gt14 exS18.T 2).u = true∧(gt14 exS18.T 2).k = 1∧(gt14 exS18.T 2).t = ((1:Nat):Int):=⟨rfl,rfl,rfl⟩
 constructor
 ·
  rw [th18,show exS18.T.length = 3 from rfl,sumR,sumR,sumR,sumR,if_neg (a0 _),if_pos b1,if_neg b2,h1]
  grind
 ·
  rw [th18,show exS18.T.length = 3 from rfl,sumR,sumR,sumR,sumR,if_neg (a0 _),if_neg d1,if_pos d2,h2]
  grind
end Go.Proofs.YtgopgbfgbddggaaGreat
