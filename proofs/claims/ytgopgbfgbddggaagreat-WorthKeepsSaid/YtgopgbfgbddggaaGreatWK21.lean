/-
  SaidWorthKeeps, part 21 of 30: what the theorem worthKeeps_holds reaches.
-/
import Derived.Test.YtgopgbfgbddggaaGreatWK20
set_option linter.all false
namespace Go.Proofs.YtgopgbfgbddggaaGreat
open Go.RowKit
set_option maxRecDepth 100000
structure By16 (w:World) (S:Sv14) (A0 A1 A2 A3 A4:Option Addr) (n0 n1 n2 n3 n4 c0 c1 c2 c3 c4:Nat) (sq:Int) (W:World):Prop where
 b:Bx14 w S A0 A1 A2 A3 A4 n0 n1 n2 n3 n4 c0 c1 c2 c3 c4 sq W
 s:SA14 w S A0 A1 A2 A3 A4 n0 n1 n2 n3 n4 c0 c1 c2 c3 c4 sq
theorem By16.step {w:World} {S:Sv14} {A0 A1 A2 A3 A4:Option Addr} {n0 n1 n2 n3 n4 c0 c1 c2 c3 c4:Nat} {sq:Int} {W W':World} (h:By16 w S A0 A1 A2 A3 A4 n0 n1 n2 n3 n4 c0 c1 c2 c3 c4 sq W) (hb:Below W.heap.size W W'):By16 w S A0 A1 A2 A3 A4 n0 n1 n2 n3 n4 c0 c1 c2 c3 c4 sq W':=⟨h.b.step hb,h.s⟩
theorem By16.low {w:World} {S:Sv14} {A0 A1 A2 A3 A4:Option Addr} {n0 n1 n2 n3 n4 c0 c1 c2 c3 c4:Nat} {sq:Int} {W W':World} (h:By16 w S A0 A1 A2 A3 A4 n0 n1 n2 n3 n4 c0 c1 c2 c3 c4 sq W) (hb:Below (w.heap.size + 1) W W'):By16 w S A0 A1 A2 A3 A4 n0 n1 n2 n3 n4 c0 c1 c2 c3 c4 sq W' :=
 ⟨⟨h.b.b.trans (hb.mono (by omega)),h.b.x.below hb (by omega),h.s.step (h.b.b.trans (hb.mono (by omega)))⟩,h.s⟩
set_option maxHeartbeats 4000000 in
theorem end16 (v:Value) (S:Sv14) (i:Int) (l:List Nat) (w:World) (h:St14 w v S) (hf:Fine14 S) (hl:Tl16 S i l) :
  Calls Tryz.prog 143 #[v,.int .i64 i] w fun e w' => e = .returned (.int .i64 (en16 l))∧Below w.heap.size w w':=by
 obtain ⟨A0,A1,A2,A3,A4,n0,n1,n2,n3,n4,c0,c1,c2,c3,c4,sq,rfl,hs⟩:=h
 have hx0:=Bx14.new hs
 have hxn:=hx0.step (Below.refl _ _).drew
 obtain ⟨W1,hW1⟩:∃ W,w.alloc (.cells #[.slice A0 n0 c0,.slice A1 n1 c1,.slice A2 n2 c2,.slice A3 n3 c3,.slice A4 n4 c4,.int .i64 sq] 28) = W:=⟨_,rfl⟩
 rw [hW1] at hx0 hxn
 have HX0:=Lib.hid hx0
 have p0:=hx0.x.cell 0
 have p1:=hx0.x.cell 1
 have p2:=hx0.x.cell 2
 have p3:=hx0.x.cell 3
 have p4:=hx0.x.cell 4
 have p5:=hx0.x.cell 5
 have HLN:Hid (l.length≤1000000):=Lib.hid (by have:=hl.len hf; have:=hs.l2; have:=hs.m2; omega)
 have HT:=Lib.hid (fun W h => tail16 (.agg #[.slice A0 n0 c0,.slice A1 n1 c1,.slice A2 n2 c2,.slice A3 n3 c3,.slice A4 n4 c4,.int .i64 sq]) S i l W h hf hl)
 clear hs hx0 hxn hf hl
 go_enter Tryz.func143,Tryz.ntmps143
 go_wp2_with fail
 refine (HT.out _ HX0.out.st).mono ?_
 rintro e u1 ⟨A,c,rfl,hr,hb1⟩
 have HB1:=Lib.hid (HX0.out.b.trans (hb1.mono HX0.out.b.size))
 clear hb1 HT HX0 p0 p1 p2 p3 p4 p5 hW1
 by_cases hl0:l = []
 ·
  subst hl0
  have HE:Hid (en16 [] = -1):=Lib.hid rfl
  clear hr
  go_wp2_with fail
  go_ret
  exact ⟨by rw [HE.out]; rfl,HB1.out⟩
 ·
  obtain ⟨d,hd⟩:∃ d,l.length = d + 1:=⟨l.length - 1,by have:=List.length_pos_iff.2 hl0; omega⟩
  obtain ⟨a,of,hA,hab,hq⟩:=hr.at_ (show d < l.length by omega)
  subst hA
  have HE:Hid (en16 l = ((nth l d:Nat):Int)):=Lib.hid (by rw [en16,if_neg hl0,lst16,hd]; rfl)
  have hnz:(((d + 1:Nat):Int) == 0) = false:=by simp; omega
  have hdm:d + 1≤1000000:=by have:=HLN.out; omega
  rw [hd]
  clear hr hab hd hl0
  have i0:(0:Int)≤(d:Int):=by omega
  have i1:(d:Int) < ((d + 1:Nat):Int):=by omega
  have hsb:((d + 1:Nat):Int) - 1 = (d:Int):=by omega
  go_wp2_with fail
  go_ret
  exact ⟨by rw [HE.out]; rfl,HB1.out⟩
set_option maxHeartbeats 8000000 in
theorem lives16 (v:Value) (S:Sv14) (i:Int) (l:List Nat) (w:World) (h:St14 w v S) (hf:Fine14 S) (hl:Tl16 S i l) :
  Calls Tryz.prog 131 #[v,.int .i64 i] w fun e w' => e = .returned (.bool (lv16 S (en16 l)))∧Below w.heap.size w w':=by
 obtain ⟨A0,A1,A2,A3,A4,n0,n1,n2,n3,n4,c0,c1,c2,c3,c4,sq,rfl,hs⟩:=h
 have hx0:By16 w S A0 A1 A2 A3 A4 n0 n1 n2 n3 n4 c0 c1 c2 c3 c4 sq _:=⟨Bx14.new hs,hs⟩
 have hxn:=hx0.step (Below.refl _ _).drew
 obtain ⟨W1,hW1⟩:∃ W,w.alloc (.cells #[.slice A0 n0 c0,.slice A1 n1 c1,.slice A2 n2 c2,.slice A3 n3 c3,.slice A4 n4 c4,.int .i64 sq] 28) = W:=⟨_,rfl⟩
 rw [hW1] at hx0 hxn
 obtain ⟨x,hx⟩:∃ x,at14 usH S.H (en16 l) = x:=⟨_,rfl⟩
 obtain ⟨xz,xf,xc,xq,xu⟩:=x
 obtain ⟨b,hb⟩:∃ b,us14 usH S.H (en16 l) = b:=⟨_,rfl⟩
 have HLV:Hid (lv16 S (en16 l) = ((xz == 2) || (xz == 3))):=Lib.hid (by rw [lv16,hx])
 have HE:=Lib.hid (fun W h => end16 (.agg #[.slice A0 n0 c0,.slice A1 n1 c1,.slice A2 n2 c2,.slice A3 n3 c3,.slice A4 n4 c4,.int .i64 sq]) S i l W h hf hl)
 have HT:=Lib.hid (fun W h => thread14 (.agg #[.slice A0 n0 c0,.slice A1 n1 c1,.slice A2 n2 c2,.slice A3 n3 c3,.slice A4 n4 c4,.int .i64 sq]) S (en16 l) xz xf xc xq xu b W h hb hx)
 have HXN:=Lib.hid hxn
 clear hs hx0 hxn hf hl hx hb
 go_enter Tryz.func131,Tryz.ntmps131
 obtain ⟨wn,hwn⟩:∃ W,W1.drew = W:=⟨_,rfl⟩
 rw [hwn] at HXN
 go_wp2_with fail
 refine wp_region_held_drew (S:=By16 w S A0 A1 A2 A3 A4 n0 n1 n2 n3 n4 c0 c1 c2 c3 c4 sq) (by kernel_rfl) (by rw [hwn]; exact HXN.out) (fun hHeld => ?_)
 rw [hwn] at hHeld ⊢
 clear hwn
 have HBS:=HXN
 refine tk 0 (v:=?_) (fun W hS => ?_) ?_
 rotate_left
 ·
  try dsimp only at hS
  have z0:=hS.b.x.cell 0
  have z1:=hS.b.x.cell 1
  have z2:=hS.b.x.cell 2
  have z3:=hS.b.x.cell 3
  have z4:=hS.b.x.cell 4
  have z5:=hS.b.x.cell 5
  go_simp
  try with_reducible rfl
 try simp only [Act.put,pt1,pt2,pt3]
 refine tk 1 (v:=?_) (fun W hS => ?_) ?_
 rotate_left
 ·
  try dsimp only at hS
  have z0:=hS.b.x.cell 0
  have z1:=hS.b.x.cell 1
  have z2:=hS.b.x.cell 2
  have z3:=hS.b.x.cell 3
  have z4:=hS.b.x.cell 4
  have z5:=hS.b.x.cell 5
  go_simp
  try with_reducible rfl
 try simp only [Act.put,pt1,pt2,pt3]
 refine tk 2 (v:=?_) (fun W hS => ?_) ?_
 rotate_left
 · (go_simp; try with_reducible rfl)
 try simp only [Act.put,pt1,pt2,pt3]
 refine wpAnyH_ready (rs:=[3,8]) (by kernel_rfl) (by simp) (AllReadyH.cons (op_of rfl) (fun K hK => ?_) (AllReadyH.cons (op_of rfl) (fun K hK => ?_) AllReadyH.nil))
 ·
  skip
  have HBS0:=HBS
  go_simp
  refine (HE.out _ HBS0.out.b.st).mono ?_
  rintro e wo ⟨rfl,hb⟩
  have HBS:=Lib.hid (HBS0.out.step hb)
  clear hb HBS0
  obtain ⟨wn,hwn⟩:∃ W,W = wo:=⟨_,rfl⟩
  subst hwn
  refine hK.out _ _ HBS.out (fun hHeld => ?_)
  clear hK K
  try simp only [Act.put,pt1,pt2,pt3]
  refine wpAnyH_ready (rs:=[4,8]) (by kernel_rfl) (by simp) (AllReadyH.cons (op_of rfl) (fun K hK => ?_) (AllReadyH.cons (op_of rfl) (fun K hK => ?_) AllReadyH.nil))
  ·
   skip
   have HBS0:=HBS
   go_simp
   refine (HT.out _ HBS0.out.b.st).mono ?_
   rintro e wo ⟨rfl,hb⟩
   have HBS:=Lib.hid (HBS0.out.step hb)
   clear hb HBS0
   obtain ⟨wn,hwn⟩:∃ W,W = wo:=⟨_,rfl⟩
   subst hwn
   refine hK.out _ _ HBS.out (fun hHeld => ?_)
   clear hK K
   try simp only [Act.put,pt1,pt2,pt3]
   refine tk 5 (v:=?_) (fun W hS => ?_) ?_
   rotate_left
   · (go_simp; try with_reducible rfl)
   try simp only [Act.put,pt1,pt2,pt3]
   refine tk 6 (v:=?_) (fun W hS => ?_) ?_
   rotate_left
   · (go_simp; try with_reducible rfl)
   try simp only [Act.put,pt1,pt2,pt3]
   refine tk 7 (v:=?_) (fun W hS => ?_) ?_
   rotate_left
   · (go_simp; try with_reducible rfl)
   try simp only [Act.put,pt1,pt2,pt3]
   refine rdy 8 (fun K hK => ?_)
   have HBS0:=HBS
   go_simp
   have HBS:=Lib.hid (HBS0.out.step (b1' wn (.cells #[.int .i64 0,.int .i64 0,.int .i64 0,.int .i64 0,.int .i64 0] 58)))
   have HK0:=Lib.hid (Blk.new wn 58 #[.int .i64 0,.int .i64 0,.int .i64 0,.int .i64 0,.int .i64 0])
   have hgl:w.heap.size < wn.heap.size:=HBS0.out.b.x.lt
   obtain ⟨g,hg⟩:∃ g,wn.heap.size = g:=⟨_,rfl⟩
   obtain ⟨wm,hwm⟩:∃ W,wn.alloc (.cells #[.int .i64 0,.int .i64 0,.int .i64 0,.int .i64 0,.int .i64 0] 58) = W:=⟨_,rfl⟩
   rw [hg] at HK0 hgl
   rw [hwm] at HBS HK0
   rw [hg,hwm]
   clear hg hwm HBS0
   obtain ⟨wn,hwn⟩:∃ W,W = wm:=⟨_,rfl⟩
   subst hwn
   refine hK.out _ _ HBS.out (fun hHeld => ?_)
   clear hK K
   try simp only [Act.put,pt1,pt2,pt3]
   refine rdy 9 (fun K hK => ?_)
   have k0:=HK0.out.cell 0
   have k1:=HK0.out.cell 1
   have k2:=HK0.out.cell 2
   have k3:=HK0.out.cell 3
   have k4:=HK0.out.cell 4
   have f0:=HK0.out.frozen 0
   have f1:=HK0.out.frozen 1
   have f2:=HK0.out.frozen 2
   have f3:=HK0.out.frozen 3
   have f4:=HK0.out.frozen 4
   go_simp
   obtain ⟨wm,hwm⟩:∃ W,((((wn.setCell ⟨g,0,none⟩ (.int .i64 xz)).setCell ⟨g,1,none⟩ (.int .i64 xf)).setCell ⟨g,2,none⟩ (.int .i64 xc)).setCell ⟨g,3,none⟩ (.int .i64 xq)).setCell ⟨g,4,none⟩ (.int .i64 xu) = W:=⟨_,rfl⟩
   have hk2:Blk wm g 58 #[.int .i64 xz,.int .i64 xf,.int .i64 xc,.int .i64 xq,.int .i64 xu]:=by
    rw [← hwm]
    have h:=((((HK0.out.set_ 0 (.int .i64 xz)).set_ 1 (.int .i64 xf)).set_ 2 (.int .i64 xc)).set_ 3 (.int .i64 xq)).set_ 4 (.int .i64 xu)
    simpa using h
   have hl5:Below (w.heap.size + 1) wn wm:=by
    rw [← hwm]
    exact (((((Below.refl _ _).setCell (p:=⟨g,0,none⟩) hgl _).setCell (p:=⟨g,1,none⟩) hgl _).setCell (p:=⟨g,2,none⟩) hgl _).setCell (p:=⟨g,3,none⟩) hgl _).setCell (p:=⟨g,4,none⟩) hgl _
   rw [hwm]
   have HBS0:=HBS
   have HBS:=Lib.hid (HBS0.out.low hl5)
   have HK1:=Lib.hid hk2
   clear hwm hk2 hl5 HK0 HBS0 k0 f0 k1 f1 k2 f2 k3 f3 k4 f4
   obtain ⟨wn,hwn⟩:∃ W,W = wm:=⟨_,rfl⟩
   subst hwn
   refine hK.out _ _ HBS.out (fun hHeld => ?_)
   clear hK K
   try simp only [Act.put,pt1,pt2,pt3]
   refine rdy 10 (fun K hK => ?_)
   go_simp
   refine hK.out _ _ HBS.out (fun hHeld => ?_)
   clear hK K
   try simp only [Act.put,pt1,pt2,pt3]
   refine wpAnyH_done (by kernel_rfl) ?_ _
   clear hHeld
   have c0:=HK1.out.cell 0
   have HB:=Lib.hid HBS.out.b.b
   clear HK1 HBS HXN
   by_cases z2:xz = 2
   ·
    subst z2
    have HE:Hid (lv16 S (en16 l) = true):=Lib.hid (by rw [HLV.out]; rfl)
    go_wp2_with fail
    go_ret
    exact ⟨by rw [HE.out]; rfl,HB.out⟩
   ·
    have hz2:(xz == 2) = false:=by simp [z2]
    have HE:Hid (lv16 S (en16 l) = (xz == 3)):=Lib.hid (by rw [HLV.out,hz2]; rfl)
    go_wp2_with fail
    go_ret
    exact ⟨by rw [HE.out]; rfl,HB.out⟩
  ·
   skip
   have HBS0:=HBS
   go_simp
   have HBS:=Lib.hid (HBS0.out.step (b1' wn (.cells #[.int .i64 0,.int .i64 0,.int .i64 0,.int .i64 0,.int .i64 0] 58)))
   have HK0:=Lib.hid (Blk.new wn 58 #[.int .i64 0,.int .i64 0,.int .i64 0,.int .i64 0,.int .i64 0])
   have hgl:w.heap.size < wn.heap.size:=HBS0.out.b.x.lt
   obtain ⟨g,hg⟩:∃ g,wn.heap.size = g:=⟨_,rfl⟩
   obtain ⟨wm,hwm⟩:∃ W,wn.alloc (.cells #[.int .i64 0,.int .i64 0,.int .i64 0,.int .i64 0,.int .i64 0] 58) = W:=⟨_,rfl⟩
   rw [hg] at HK0 hgl
   rw [hwm] at HBS HK0
   rw [hg,hwm]
   clear hg hwm HBS0
   obtain ⟨wn,hwn⟩:∃ W,W = wm:=⟨_,rfl⟩
   subst hwn
   refine hK.out _ _ HBS.out (fun hHeld => ?_)
   clear hK K
   try simp only [Act.put,pt1,pt2,pt3]
   refine rdy 4 (fun K hK => ?_)
   have HBS0:=HBS
   go_simp
   refine (HT.out _ HBS0.out.b.st).mono ?_
   rintro e wo ⟨rfl,hb⟩
   have HBS:=Lib.hid (HBS0.out.step hb)
   have HK0:=Lib.hid (HK0.out.below hb HK0.out.lt)
   clear hb HBS0
   obtain ⟨wn,hwn⟩:∃ W,W = wo:=⟨_,rfl⟩
   subst hwn
   refine hK.out _ _ HBS.out (fun hHeld => ?_)
   clear hK K
   try simp only [Act.put,pt1,pt2,pt3]
   refine tk 5 (v:=?_) (fun W hS => ?_) ?_
   rotate_left
   · (go_simp; try with_reducible rfl)
   try simp only [Act.put,pt1,pt2,pt3]
   refine tk 6 (v:=?_) (fun W hS => ?_) ?_
   rotate_left
   · (go_simp; try with_reducible rfl)
   try simp only [Act.put,pt1,pt2,pt3]
   refine tk 7 (v:=?_) (fun W hS => ?_) ?_
   rotate_left
   · (go_simp; try with_reducible rfl)
   try simp only [Act.put,pt1,pt2,pt3]
   refine rdy 9 (fun K hK => ?_)
   have k0:=HK0.out.cell 0
   have k1:=HK0.out.cell 1
   have k2:=HK0.out.cell 2
   have k3:=HK0.out.cell 3
   have k4:=HK0.out.cell 4
   have f0:=HK0.out.frozen 0
   have f1:=HK0.out.frozen 1
   have f2:=HK0.out.frozen 2
   have f3:=HK0.out.frozen 3
   have f4:=HK0.out.frozen 4
   go_simp
   obtain ⟨wm,hwm⟩:∃ W,((((wn.setCell ⟨g,0,none⟩ (.int .i64 xz)).setCell ⟨g,1,none⟩ (.int .i64 xf)).setCell ⟨g,2,none⟩ (.int .i64 xc)).setCell ⟨g,3,none⟩ (.int .i64 xq)).setCell ⟨g,4,none⟩ (.int .i64 xu) = W:=⟨_,rfl⟩
   have hk2:Blk wm g 58 #[.int .i64 xz,.int .i64 xf,.int .i64 xc,.int .i64 xq,.int .i64 xu]:=by
    rw [← hwm]
    have h:=((((HK0.out.set_ 0 (.int .i64 xz)).set_ 1 (.int .i64 xf)).set_ 2 (.int .i64 xc)).set_ 3 (.int .i64 xq)).set_ 4 (.int .i64 xu)
    simpa using h
   have hl5:Below (w.heap.size + 1) wn wm:=by
    rw [← hwm]
    exact (((((Below.refl _ _).setCell (p:=⟨g,0,none⟩) hgl _).setCell (p:=⟨g,1,none⟩) hgl _).setCell (p:=⟨g,2,none⟩) hgl _).setCell (p:=⟨g,3,none⟩) hgl _).setCell (p:=⟨g,4,none⟩) hgl _
   rw [hwm]
   have HBS0:=HBS
   have HBS:=Lib.hid (HBS0.out.low hl5)
   have HK1:=Lib.hid hk2
   clear hwm hk2 hl5 HK0 HBS0 k0 f0 k1 f1 k2 f2 k3 f3 k4 f4
   obtain ⟨wn,hwn⟩:∃ W,W = wm:=⟨_,rfl⟩
   subst hwn
   refine hK.out _ _ HBS.out (fun hHeld => ?_)
   clear hK K
   try simp only [Act.put,pt1,pt2,pt3]
   refine rdy 10 (fun K hK => ?_)
   go_simp
   refine hK.out _ _ HBS.out (fun hHeld => ?_)
   clear hK K
   try simp only [Act.put,pt1,pt2,pt3]
   refine wpAnyH_done (by kernel_rfl) ?_ _
   clear hHeld
   have c0:=HK1.out.cell 0
   have HB:=Lib.hid HBS.out.b.b
   clear HK1 HBS HXN
   by_cases z2:xz = 2
   ·
    subst z2
    have HE:Hid (lv16 S (en16 l) = true):=Lib.hid (by rw [HLV.out]; rfl)
    go_wp2_with fail
    go_ret
    exact ⟨by rw [HE.out]; rfl,HB.out⟩
   ·
    have hz2:(xz == 2) = false:=by simp [z2]
    have HE:Hid (lv16 S (en16 l) = (xz == 3)):=Lib.hid (by rw [HLV.out,hz2]; rfl)
    go_wp2_with fail
    go_ret
    exact ⟨by rw [HE.out]; rfl,HB.out⟩
 ·
  skip
  have HBS0:=HBS
  go_simp
  have HBS:=Lib.hid (HBS0.out.step (b1' wn (.cells #[.int .i64 0,.int .i64 0,.int .i64 0,.int .i64 0,.int .i64 0] 58)))
  have HK0:=Lib.hid (Blk.new wn 58 #[.int .i64 0,.int .i64 0,.int .i64 0,.int .i64 0,.int .i64 0])
  have hgl:w.heap.size < wn.heap.size:=HBS0.out.b.x.lt
  obtain ⟨g,hg⟩:∃ g,wn.heap.size = g:=⟨_,rfl⟩
  obtain ⟨wm,hwm⟩:∃ W,wn.alloc (.cells #[.int .i64 0,.int .i64 0,.int .i64 0,.int .i64 0,.int .i64 0] 58) = W:=⟨_,rfl⟩
  rw [hg] at HK0 hgl
  rw [hwm] at HBS HK0
  rw [hg,hwm]
  clear hg hwm HBS0
  obtain ⟨wn,hwn⟩:∃ W,W = wm:=⟨_,rfl⟩
  subst hwn
  refine hK.out _ _ HBS.out (fun hHeld => ?_)
  clear hK K
  try simp only [Act.put,pt1,pt2,pt3]
  refine rdy 3 (fun K hK => ?_)
  have HBS0:=HBS
  go_simp
  refine (HE.out _ HBS0.out.b.st).mono ?_
  rintro e wo ⟨rfl,hb⟩
  have HBS:=Lib.hid (HBS0.out.step hb)
  have HK0:=Lib.hid (HK0.out.below hb HK0.out.lt)
  clear hb HBS0
  obtain ⟨wn,hwn⟩:∃ W,W = wo:=⟨_,rfl⟩
  subst hwn
  refine hK.out _ _ HBS.out (fun hHeld => ?_)
  clear hK K
  try simp only [Act.put,pt1,pt2,pt3]
  refine rdy 4 (fun K hK => ?_)
  have HBS0:=HBS
  go_simp
  refine (HT.out _ HBS0.out.b.st).mono ?_
  rintro e wo ⟨rfl,hb⟩
  have HBS:=Lib.hid (HBS0.out.step hb)
  have HK0:=Lib.hid (HK0.out.below hb HK0.out.lt)
  clear hb HBS0
  obtain ⟨wn,hwn⟩:∃ W,W = wo:=⟨_,rfl⟩
  subst hwn
  refine hK.out _ _ HBS.out (fun hHeld => ?_)
  clear hK K
  try simp only [Act.put,pt1,pt2,pt3]
  refine tk 5 (v:=?_) (fun W hS => ?_) ?_
  rotate_left
  · (go_simp; try with_reducible rfl)
  try simp only [Act.put,pt1,pt2,pt3]
  refine tk 6 (v:=?_) (fun W hS => ?_) ?_
  rotate_left
  · (go_simp; try with_reducible rfl)
  try simp only [Act.put,pt1,pt2,pt3]
  refine tk 7 (v:=?_) (fun W hS => ?_) ?_
  rotate_left
  · (go_simp; try with_reducible rfl)
  try simp only [Act.put,pt1,pt2,pt3]
  refine rdy 9 (fun K hK => ?_)
  have k0:=HK0.out.cell 0
  have k1:=HK0.out.cell 1
  have k2:=HK0.out.cell 2
  have k3:=HK0.out.cell 3
  have k4:=HK0.out.cell 4
  have f0:=HK0.out.frozen 0
  have f1:=HK0.out.frozen 1
  have f2:=HK0.out.frozen 2
  have f3:=HK0.out.frozen 3
  have f4:=HK0.out.frozen 4
  go_simp
  obtain ⟨wm,hwm⟩:∃ W,((((wn.setCell ⟨g,0,none⟩ (.int .i64 xz)).setCell ⟨g,1,none⟩ (.int .i64 xf)).setCell ⟨g,2,none⟩ (.int .i64 xc)).setCell ⟨g,3,none⟩ (.int .i64 xq)).setCell ⟨g,4,none⟩ (.int .i64 xu) = W:=⟨_,rfl⟩
  have hk2:Blk wm g 58 #[.int .i64 xz,.int .i64 xf,.int .i64 xc,.int .i64 xq,.int .i64 xu]:=by
   rw [← hwm]
   have h:=((((HK0.out.set_ 0 (.int .i64 xz)).set_ 1 (.int .i64 xf)).set_ 2 (.int .i64 xc)).set_ 3 (.int .i64 xq)).set_ 4 (.int .i64 xu)
   simpa using h
  have hl5:Below (w.heap.size + 1) wn wm:=by
   rw [← hwm]
   exact (((((Below.refl _ _).setCell (p:=⟨g,0,none⟩) hgl _).setCell (p:=⟨g,1,none⟩) hgl _).setCell (p:=⟨g,2,none⟩) hgl _).setCell (p:=⟨g,3,none⟩) hgl _).setCell (p:=⟨g,4,none⟩) hgl _
  rw [hwm]
  have HBS0:=HBS
  have HBS:=Lib.hid (HBS0.out.low hl5)
  have HK1:=Lib.hid hk2
  clear hwm hk2 hl5 HK0 HBS0 k0 f0 k1 f1 k2 f2 k3 f3 k4 f4
  obtain ⟨wn,hwn⟩:∃ W,W = wm:=⟨_,rfl⟩
  subst hwn
  refine hK.out _ _ HBS.out (fun hHeld => ?_)
  clear hK K
  try simp only [Act.put,pt1,pt2,pt3]
  refine rdy 10 (fun K hK => ?_)
  go_simp
  refine hK.out _ _ HBS.out (fun hHeld => ?_)
  clear hK K
  try simp only [Act.put,pt1,pt2,pt3]
  refine wpAnyH_done (by kernel_rfl) ?_ _
  clear hHeld
  have c0:=HK1.out.cell 0
  have HB:=Lib.hid HBS.out.b.b
  clear HK1 HBS HXN
  by_cases z2:xz = 2
  ·
   subst z2
   have HE:Hid (lv16 S (en16 l) = true):=Lib.hid (by rw [HLV.out]; rfl)
   go_wp2_with fail
   go_ret
   exact ⟨by rw [HE.out]; rfl,HB.out⟩
  ·
   have hz2:(xz == 2) = false:=by simp [z2]
   have HE:Hid (lv16 S (en16 l) = (xz == 3)):=Lib.hid (by rw [HLV.out,hz2]; rfl)
   go_wp2_with fail
   go_ret
   exact ⟨by rw [HE.out]; rfl,HB.out⟩
def Fa17 (L:Nat) (A:Option Addr) (xs:List Nat):Prop:=xs≠[]→∃ b o,A = some ⟨b,o,none⟩∧L≤b
theorem Fa17.more {L L':Nat} {A:Option Addr} {xs:List Nat} (h:Fa17 L A xs) (hL:L'≤L):Fa17 L' A xs:=fun hx => by
 obtain ⟨b,o,h1,h2⟩:=h hx
 exact ⟨b,o,h1,by omega⟩
theorem Fa17.of_own {w:World} {L n c:Nat} {A:Option Addr} {xs:List Nat} (h:w.ownsRow L 3 1 (.slice A n c) n (ints xs)) (hl:xs.length = n):Fa17 L A xs:=fun hx => by
 have hpos:0 < xs.length:=List.length_pos_iff.2 hx
 rcases h.2 with ⟨_,h0⟩ | ⟨g,cap,cur,hv,hg,_,_⟩
 · omega
 ·
  injection hv with hA
  exact ⟨g,0,hA,hg⟩
def RetO17 (w:World) (xs:List Nat) (e:Ending) (w':World):Prop:=∃ A c,e = .returned (.slice A xs.length c)∧Rd w' w'.heap.size A xs∧Fa17 w.heap.size A xs∧Below w.heap.size w w'
def RetF17 (B:Nat) (w:World) (ys:List Nat) (e:Ending) (w':World):Prop:=∃ A c,e = .returned (.slice A ys.length c)∧Rd w' w'.heap.size A ys∧Fa17 B A ys∧Below B w w'
set_option maxHeartbeats 4000000 in
theorem del17 (A:Option Addr) (xs:List Nat) (n c gx B:Nat) (w:World) (hl:xs.length = n) (ho:w.ownsRow B 3 1 (.slice A n c) n (ints xs)) (hn:n≤1000000) (hB:B≤w.heap.size) (p:Nat→Bool)
  (hcl:∀ W,Below B w W→∀ x,x∈xs→Calls Tryz.prog 83 #[.int .i64 ((x:Nat):Int),.pointer (some ⟨gx,0,none⟩)] W fun e w' => e = .returned (.bool (p x))∧Below W.heap.size W w') :
  Calls Tryz.prog 82 #[.slice A n c,.func (.func 83) #[] #[.pointer (some ⟨gx,0,none⟩)]] w (RetF17 B w (xs.filter (fun x => !p x))):=by
 have HP:Hid (RetF17 B w (xs.filter (fun x => !p x)) = fun e w' => ∃ A c,e = .returned (.slice A (xs.filter (fun x => !p x)).length c)∧Rd w' w'.heap.size A (xs.filter (fun x => !p x))∧Fa17 B A (xs.filter (fun x => !p x))∧Below B w w'):=Lib.hid rfl
 have HI:=Lib.hid (idx15a A xs n c gx w.heap.size w hl (rd15_own ho hl) hn (Nat.le_refl _) p (fun W hW => hcl W (hW.mono hB)))
 have HL:=Lib.hid hl
 have HO:=Lib.hid ho
 have HC:=Lib.hid hcl
 have hcap:=own14_cap ho
 clear hl ho hcl
 go_enter Tryz.func82,Tryz.ntmps82
 go_wp2_with fail
 refine HI.out.mono ?_
 rintro e w1 ⟨r,rfl,hf,hb1⟩
 clear HI
 rcases hf with ⟨k,h1,rfl,h2,h3⟩ | ⟨rfl,h2⟩
 ·
  obtain ⟨g,hA,hgB⟩:∃ g,A = some ⟨g,0,none⟩∧B≤g:=by
   rcases HO.out.2 with ⟨_,h0⟩ | ⟨g,cap,cur,hv,hg,_⟩
   · omega
   ·
    injection hv with hA
    exact ⟨g,hA,hg⟩
  subst hA
  have HGB:=Lib.hid hgB
  have hi1:Ib13 w1 g n (nth xs):=(Ib13.of_own HO.out HL.out).below hb1 (HO.out.lt g rfl).2
  have HD0:Hid (Df15 w B g n xs p k (k + 1) w1):=Lib.hid (by
   have hk:=HL.out
   have e1:(xs.take (k + 1)).filter (fun x => !p x) = xs.take k:=by
    rw [filt15_next (by omega),filt15_head (by omega) (fun t ht => by rw [h3 t ht]; rfl),h2]
    simp
   refine ⟨hb1.mono hB,by rw [e1,List.length_take]; omega,nth xs,hi1,fun t ht => ?_,fun t _ _ => rfl⟩
   rw [e1,nth15_take ht])
  have e0:¬ (k:Int) = -1:=by omega
  have e1:((k:Int) == -1) = false:=by simp [e0]
  obtain ⟨j0,hj0⟩:∃ j0,k + 1 = j0:=⟨_,rfl⟩
  have hw0:IntKind.i64.wrap ((k:Int) + 1) = ((j0:Nat):Int):=by rw [IntKind.wrap_i64]; omega
  rw [hj0] at HD0
  have HWD:=Lib.hid (show k < j0∧j0≤n by omega)
  clear hi1 h2 h3 hb1 hj0
  go_wp2_with fail
  go_loopw [5,6] (fun i j wr => ∃ k jj:Nat,i = .int .i64 (k:Int)∧j = .int .i64 (jj:Int)∧k < jj∧jj≤n∧Hid (Df15 w B g n xs p k jj wr)) (fun _ j _ => n - (intOf j).toNat)
  case atStart => exact ⟨k,j0,rfl,rfl,HWD.out.1,HWD.out.2,HD0⟩
  case round =>
   clear HD0 HWD h1
   obtain ⟨k,jj,rfl,rfl,hkj,hj,HD⟩:=hrel
   by_cases hjn:jj < n
   ·
    obtain ⟨h,hib,hlo,hhi⟩:=HD.out.r
    have q0:=(hib.cells hjn).1
    rw [hhi jj (Nat.le_refl _) hjn] at q0
    obtain ⟨x,hx⟩:∃ x,nth xs jj = x:=⟨_,rfl⟩
    rw [hx] at q0
    obtain ⟨bp,hbp⟩:∃ y,p x = y:=⟨_,rfl⟩
    have hc:=HC.out _ HD.out.b x (by rw [← hx,nth_in (by have:=HL.out; omega)]; exact List.getElem_mem _)
    rw [hbp] at hc
    have HCK:=Lib.hid hc
    have HX:Hid ((xs.take (jj + 1)).filter (fun x => !p x) = (xs.take jj).filter (fun x => !p x) ++ if bp then [] else [x]):=Lib.hid (by
     rw [filt15_next (by have:=HL.out; omega),hx,hbp]
     cases bp <;> rfl)
    have HIB:=Lib.hid hib
    have HLO:=Lib.hid hlo
    have HHI:=Lib.hid hhi
    have HGW:=HIB.out.lt
    have i0:(0:Int)≤(jj:Int):=by omega
    have i1:(jj:Int) < (n:Int):=by omega
    have i2:(0:Int)≤(k:Int):=by omega
    have i3:(k:Int) < (n:Int):=by omega
    clear hx hbp hc hib hlo hhi
    cases bp with
    | true =>
     go_wp2_with fail
     refine HCK.out.mono ?_
     rintro e w2 ⟨rfl,hb2⟩
     have HD2:Hid (Df15 w B g n xs p k (jj + 1) w2):=Lib.hid (by
      have hX:=HX.out
      simp only [if_true,List.append_nil] at hX
      refine ⟨HD.out.b.trans (hb2.mono (by have:=HD.out.b.size; omega)),by rw [hX]; exact HD.out.l,h,HIB.out.below hb2 HGW,?_,fun t h1 h2 => HHI.out t (by omega) h2⟩
      rw [hX]
      exact HLO.out)
     clear HCK hb2 HIB HLO HHI HX HD
     go_wp2_with fail
     go_roundw
     case rel => exact ⟨k,jj + 1,rfl,by go_num,by omega,by omega,HD2⟩
     case measure => simp [intOf]; omega
    | false =>
     go_wp2_with fail
     refine HCK.out.mono ?_
     rintro e w2 ⟨rfl,hb2⟩
     have hi2:=HIB.out.below hb2 HGW
     have f2:=(hi2.cells (k:=k) (by omega)).2
     have c2:=(hi2.cells (k:=k) (by omega)).1
     have HD2:Hid (Df15 w B g n xs p (k + 1) (jj + 1) (w2.setCell ⟨g,k,none⟩ (.int .i64 (x:Int)))):=Lib.hid (by
      have hX:=HX.out
      simp only [Bool.false_eq_true,if_false] at hX
      refine ⟨(HD.out.b.trans (hb2.mono (by have:=HD.out.b.size; omega))).setCell hgB _,by rw [hX,List.length_append,HD.out.l]; rfl,upd h k x,hi2.put (by omega) x,fun t ht => ?_,fun t h1 h2 => ?_⟩
      ·
       rw [hX]
       by_cases htk:t = k
       ·
        subst htk
        rw [upd_at,nth15_at HD.out.l]
       ·
        rw [upd_far _ _ htk,nth15_low (by rw [HD.out.l]; omega)]
        exact HLO.out t (by omega)
      ·
       rw [upd_far _ _ (by omega)]
       exact HHI.out t (by omega) h2)
     clear HCK hb2 HIB HLO HHI HX HD hi2
     go_wp2_with fail
     go_roundw
     case rel => exact ⟨k + 1,jj + 1,by go_num,by go_num,by omega,by omega,HD2⟩
     case measure => simp [intOf]; omega
   ·
    obtain rfl:jj = n:=by omega
    have i1:¬ (jj:Int) < (jj:Int):=by omega
    obtain ⟨h,hib,hlo,_⟩:=HD.out.r
    have hfl:=HD.out.l
    have htk:xs.take jj = xs:=List.take_of_length_le (by have:=HL.out; omega)
    rw [htk] at hlo hfl
    obtain ⟨B',hcut,hB'⟩:=cutb15 g jj c k (by omega) hcap
    obtain ⟨w3,hclr,hi3,hg3⟩:=clear15 hib (k:=k) (by omega) B' (c - k) hB'
    have HB3:Hid (Below B w w3):=Lib.hid (HD.out.b.grown hg3 (by have:=HD.out.b.size; omega) (fun r hr => by cases hr; exact hgB))
    have HRD:Hid (Rd w3 w3.heap.size (some ⟨g,0,none⟩) (xs.filter (fun x => !p x))):=Lib.hid (by
     have h5:=hi3
     rw [← hfl] at h5
     exact h5.rd (fun t ht => (hlo t (by omega)).symm))
    have HFL:=Lib.hid hfl
    have i5:(0:Int)≤(k:Int):=by omega
    have i6:(k:Int)≤(c:Int):=by omega
    clear hib hlo hfl htk hi3 hg3 HD hB'
    go_wp2_with fail
    go_ret
    rw [HP.out]
    exact ⟨some ⟨g,0,none⟩,c,by rw [HFL.out]; rfl,HRD.out,fun _ => ⟨g,0,rfl,HGB.out⟩,HB3.out⟩
 ·
  have HF:Hid (xs.filter (fun x => !p x) = xs):=Lib.hid (by
   rw [List.filter_eq_self]
   intro x hx
   obtain ⟨t,ht,rfl⟩:=List.getElem_of_mem hx
   rw [← nth_in ht,h2 t (by have:=HL.out; omega)]
   rfl)
  have HR:Hid (Rd w1 w1.heap.size A xs):=Lib.hid ((rd15_own HO.out HL.out).below hb1 (Nat.le_refl _) |>.more hb1.size)
  have HB1:=Lib.hid (hb1.mono hB)
  clear h2 hb1
  go_wp2_with fail
  go_ret
  rw [HP.out,HF.out]
  exact ⟨A,c,by rw [HL.out]; rfl,HR.out,Fa17.of_own HO.out HL.out,HB1.out⟩
set_option maxHeartbeats 4000000 in
theorem order17 (v:Value) (S:Sv14) (os:List Nat) (w:World) (h:St14 w v S) (hd:Done13 (Ca15 S) S.C.length os) (hf:os.length = S.C.length) :
  Calls Tryz.prog 61 #[v] w (RetO17 w (ord15 S os)):=by
 obtain ⟨A0,A1,A2,A3,A4,n0,n1,n2,n3,n4,c0,c1,c2,c3,c4,sq,rfl,hs⟩:=h
 have HP:Hid (RetO17 w (ord15 S os) = fun e w' => ∃ A c,e = .returned (.slice A (ord15 S os).length c)∧Rd w' w'.heap.size A (ord15 S os)∧Fa17 w.heap.size A (ord15 S os)∧Below w.heap.size w w'):=Lib.hid rfl
 have HCA:=Lib.hid (fun W (h:Bx14 w S A0 A1 A2 A3 A4 n0 n1 n2 n3 n4 c0 c1 c2 c3 c4 sq W) => coinArrows14 _ S W h.st)
 have hl0:=hs.l0
 have hm0:=hs.m0
 have HLA:Hid ((cArr14 S S.T.length).length≤1000000):=Lib.hid (by have:=cArr14_len S S.T.length; have:=hs.l1; have:=hs.m1; omega)
 have HOR:=Lib.hid (fun W Ad c (hr:Aq W W.heap.size Ad (cArr14 S S.T.length)) => dorder13_any (n0:Int) n0 (by unfold nn13; omega) Ad _ _ c os W rfl hr HLA.out (by rw [← hl0]; exact hd))
 have hfn:decide (os.length = n0) = true:=by rw [← hl0]; simpa using hf
 have HFN:=Lib.hid (show os.length = n0 by rw [← hl0]; exact hf)
 have hx0:=Bx14.new hs
 have hxn:=hx0.step (Below.refl _ _).drew
 obtain ⟨W1,hW1⟩:∃ W,w.alloc (.cells #[.slice A0 n0 c0,.slice A1 n1 c1,.slice A2 n2 c2,.slice A3 n3 c3,.slice A4 n4 c4,.int .i64 sq] 28) = W:=⟨_,rfl⟩
 rw [hW1] at hx0 hxn
 have HXN:=Lib.hid hxn
 clear hs hx0 hxn hd hf hl0
 go_enter Tryz.func61,Tryz.ntmps61
 obtain ⟨wn,hwn⟩:∃ W,W1.drew = W:=⟨_,rfl⟩
 rw [hwn] at HXN
 go_wp2_with fail
 refine wp_region_held_drew (S:=Bx14 w S A0 A1 A2 A3 A4 n0 n1 n2 n3 n4 c0 c1 c2 c3 c4 sq) (by kernel_rfl) (by rw [hwn]; exact HXN.out) (fun hHeld => ?_)
 rw [hwn] at hHeld ⊢
 clear hwn
 have HBS:=HXN
 refine tk 0 (v:=?_) (fun W hS => ?_) ?_
 rotate_left
 · (go_simp; try with_reducible rfl)
 try simp only [Act.put,pt1,pt2,pt3]
 refine tk 1 (v:=?_) (fun W hS => ?_) ?_
 rotate_left
 ·
  try dsimp only at hS
  have z0:=hS.x.cell 0
  go_simp
  try with_reducible rfl
 try simp only [Act.put,pt1,pt2,pt3]
 refine tk 2 (v:=?_) (fun W hS => ?_) ?_
 rotate_left
 · (go_simp; try with_reducible rfl)
 try simp only [Act.put,pt1,pt2,pt3]
 refine tk 3 (v:=?_) (fun W hS => ?_) ?_
 rotate_left
 ·
  try dsimp only at hS
  have z0:=hS.x.cell 0
  have z1:=hS.x.cell 1
  have z2:=hS.x.cell 2
  have z3:=hS.x.cell 3
  have z4:=hS.x.cell 4
  have z5:=hS.x.cell 5
  go_simp
  try with_reducible rfl
 try simp only [Act.put,pt1,pt2,pt3]
 refine rdy 4 (fun K hK => ?_)
 have HBS0:=HBS
 go_simp
 refine (HCA.out _ HBS0.out).mono ?_
 rintro e wn ⟨Ac,cc,rfl,hqa,hb⟩
 have HBS:=Lib.hid (HBS0.out.step hb)
 have HQA:=Lib.hid hqa
 clear hqa
 clear hb HBS0
 refine hK.out _ _ HBS.out (fun hHeld => ?_)
 clear hK K
 try simp only [Act.put,pt1,pt2,pt3]
 refine rdy 5 (fun K hK => ?_)
 have HBS0:=HBS
 go_simp
 refine (HOR.out _ Ac cc HQA.out).mono ?_
 rintro e wm ⟨vo,rfl,ho,_,hb⟩
 obtain ⟨WO,hWO⟩:∃ W,W = wn:=⟨_,rfl⟩
 rw [← hWO] at HBS0 hb ho
 have HBS:=Lib.hid (HBS0.out.step hb)
 have HQO:=Lib.hid (ho HFN.out)
 have HB5:=Lib.hid hb
 have HBO:=Lib.hid HBS0.out.b
 have HX5:=HBS0
 clear hb HBS0 HQA ho hWO
 refine hK.out _ _ HBS.out (fun hHeld => ?_)
 clear hK K
 try simp only [Act.put,pt1,pt2,pt3]
 refine tk 6 (v:=?_) (fun W hS => ?_) ?_
 rotate_left
 · (go_simp; try with_reducible rfl)
 try simp only [Act.put,pt1,pt2,pt3]
 refine tk 7 (v:=?_) (fun W hS => ?_) ?_
 rotate_left
 · (go_simp; try with_reducible rfl)
 try simp only [Act.put,pt1,pt2,pt3]
 refine tk 8 (v:=?_) (fun W hS => ?_) ?_
 rotate_left
 · (go_simp; try with_reducible rfl)
 try simp only [Act.put,pt1,pt2,pt3]
 refine rdy 9 (fun K hK => ?_)
 go_simp
 refine hK.out _ _ HBS.out (fun hHeld => ?_)
 clear hK K
 try simp only [Act.put,pt1,pt2,pt3]
 refine rdy 10 (fun K hK => ?_)
 go_simp
 refine hK.out _ _ HBS.out (fun hHeld => ?_)
 clear hK K
 try simp only [Act.put,pt1,pt2,pt3]
 refine wpAnyH_done (by kernel_rfl) ?_ _
 clear hHeld
 obtain ⟨Ao,co,rfl,hown⟩:=HQO.out
 have HOW:=Lib.hid hown
 clear hown
 have HDL:=Lib.hid (del17 Ao os os.length co w.heap.size WO.heap.size wm rfl HOW.out (by have:=HFN.out; omega) HB5.out.size (fun (x:Nat) => !us14 usC S.C (x:Int)) (fun W hW x _ => ordc15 (x:Int) w.heap.size S A0 A1 A2 A3 A4 n0 n1 n2 n3 n4 c0 c1 c2 c3 c4 sq W _ (HX5.out.x.below (HB5.out.trans hW) HX5.out.x.lt) (HX5.out.s.step (HB5.out.trans hW)) rfl))
 clear HX5 HBS
 go_wp2_with fail
 refine HDL.out.mono ?_
 rintro e w7 ⟨Af,cf,rfl,hrd,hfa,hb7⟩
 have HB7:=Lib.hid (HBO.out.trans ((HB5.out.trans hb7).mono HBO.out.size))
 have HF:Hid (os.filter (fun (x:Nat) => !!us14 usC S.C (x:Int)) = ord15 S os):=Lib.hid (by simp [ord15])
 rw [HF.out] at hrd hfa ⊢
 have HFA:=Lib.hid (hfa.more HBO.out.size)
 clear hfa
 have HRD:=Lib.hid hrd
 clear hrd hb7 HDL
 go_wp2_with fail
 go_ret
 rw [HP.out]
 exact ⟨Af,cf,rfl,HRD.out,HFA.out,HB7.out⟩
set_option maxHeartbeats 4000000 in
theorem tickets17i (v:Value) (S:Sv14) (gc:Nat) (w:World) (h:St14 w v S) (p:Tk14→Bool)
  (hcl:∀ W,Below w.heap.size w W→∀ xu xc xa xk xt xo,Calls Tryz.prog 111 #[.agg #[.bool xu,.int .i64 xc,.int .i64 xa,.int .i64 xk,.int .i64 xt,.bool xo],.pointer (some ⟨gc,0,none⟩)] W fun e w' => e = .returned (.bool (p ⟨xu,xc,xa,xk,xt,xo⟩))∧Below W.heap.size W w') :
  Calls Tryz.prog 90 #[v,.func (.func 111) #[] #[.pointer (some ⟨gc,0,none⟩)]] w (RetO17 w (tks15 S p S.T.length)):=by
 obtain ⟨A0,A1,A2,A3,A4,n0,n1,n2,n3,n4,c0,c1,c2,c3,c4,sq,rfl,hs⟩:=h
 have HP:Hid (RetO17 w (tks15 S p S.T.length) = fun e w' => ∃ A c,e = .returned (.slice A (tks15 S p n1).length c)∧Rd w' w'.heap.size A (tks15 S p n1)∧Fa17 w.heap.size A (tks15 S p n1)∧Below w.heap.size w w'):=Lib.hid (by rw [hs.l1]; rfl)
 have HX0:Hid (Ti15 w (w.heap.size + 1) S A0 A1 A2 A3 A4 n0 n1 n2 n3 n4 c0 c1 c2 c3 c4 sq none 0 0 (tks15 S p 0) (w.alloc (.cells #[.slice A0 n0 c0,.slice A1 n1 c1,.slice A2 n2 c2,.slice A3 n3 c3,.slice A4 n4 c4,.int .i64 sq] 28))):=Lib.hid (Ti15.start hs (Bx14.new hs) (by omega) (by simp))
 have HC:=Lib.hid hcl
 have HL1:=Lib.hid hs.l1
 have hnb:=hs.m1
 have t1:=HX0.out.b.x.cell 1
 clear hs hcl
 go_enter Tryz.func90,Tryz.ntmps90
 go_wp2_with fail
 clear t1
 go_loopw [4,10] (fun v i wr => ∃ (k:Nat) (A:Option Addr) (m c:Nat),v = .slice A m c∧i = .int .i64 (k:Int)∧k≤n1∧Hid (Ti15 w (w.heap.size + 1) S A0 A1 A2 A3 A4 n0 n1 n2 n3 n4 c0 c1 c2 c3 c4 sq A m c (tks15 S p k) wr)) (fun _ i _ => n1 - (intOf i).toNat)
 case atStart => exact ⟨0,none,0,0,rfl,rfl,by omega,HX0⟩
 case round =>
  obtain ⟨k,A,m,c,rfl,rfl,hk,HW⟩:=hrel
  by_cases hkn:k < n1
  ·
   obtain ⟨a,of,hA,hab,hq⟩:=Lq.at_ len14T (by omega) HW.out.b.s.r1 (show k < S.T.length by have:=HL1.out; omega)
   obtain ⟨x,hx⟩:∃ x,gt14 S.T k = x:=⟨_,rfl⟩
   rw [hx] at hq
   obtain ⟨xu,xc,xa,xk,xt,xo⟩:=x
   have e0:wr.cell? ⟨a,of + k * 6,none⟩ = some (.bool xu):=hq 0 _ rfl
   have e1:wr.cell? ⟨a,of + k * 6 + 1,none⟩ = some (.int .i64 xc):=hq 1 _ rfl
   have e2:wr.cell? ⟨a,of + k * 6 + 2,none⟩ = some (.int .i64 xa):=hq 2 _ rfl
   have e3:wr.cell? ⟨a,of + k * 6 + 3,none⟩ = some (.int .i64 xk):=hq 3 _ rfl
   have e4:wr.cell? ⟨a,of + k * 6 + 4,none⟩ = some (.int .i64 xt):=hq 4 _ rfl
   have e5:wr.cell? ⟨a,of + k * 6 + 5,none⟩ = some (.bool xo):=hq 5 _ rfl
   have i0:(0:Int)≤(k:Int):=by omega
   have i1:(k:Int) < (n1:Int):=by omega
   have HV:=Lib.hid (Ti15.step HW.out (b1' wr (.cells #[.bool xu,.int .i64 xc,.int .i64 xa,.int .i64 xk,.int .i64 xt,.bool xo] 53)))
   have hv:=Blk.new wr 53 #[.bool xu,.int .i64 xc,.int .i64 xa,.int .i64 xk,.int .i64 xt,.bool xo]
   have v0:=hv.cell 0
   have v1:=hv.cell 1
   have v2:=hv.cell 2
   have v3:=hv.cell 3
   have v4:=hv.cell 4
   have v5:=hv.cell 5
   have HVB:=Lib.hid hv
   have HNX:Hid (tks15 S p (k + 1) = tks15 S p k ++ if (xu && p ⟨xu,xc,xa,xk,xt,xo⟩) then [k] else []):=Lib.hid (by
    have h:=all11_next (fun j => (gt14 S.T j).u && p (gt14 S.T j)) k
    rw [hx] at h
    exact h)
   obtain ⟨X,hX⟩:∃ X,wr.alloc (.cells #[.bool xu,.int .i64 xc,.int .i64 xa,.int .i64 xk,.int .i64 xt,.bool xo] 53) = X:=⟨_,rfl⟩
   rw [hX] at HV HVB v0 v1 v2 v3 v4 v5
   have hmk:m≤k:=by rw [← HW.out.l]; exact tks15_len S p k
   clear hv hq hx hab
   subst hA
   cases xu with
   | false =>
    have HN:=Lib.hid (HV.out.congr (ys:=tks15 S p (k + 1)) (by rw [HNX.out]; simp))
    go_wp2_with fail
    go_roundw
    case rel => exact ⟨k + 1,A,m,c,rfl,by go_num,by omega,HN⟩
    case measure => simp [intOf]; omega
   | true =>
    obtain ⟨bp,hbp⟩:∃ y,p ⟨true,xc,xa,xk,xt,xo⟩ = y:=⟨_,rfl⟩
    have hc:=HC.out X HV.out.b.b true xc xa xk xt xo
    rw [hbp] at hc HNX
    have HCK:=Lib.hid hc
    clear hbp hc
    cases bp with
    | false =>
     go_wp2_with fail
     refine HCK.out.mono ?_
     rintro e w2 ⟨rfl,hb2⟩
     have HN:=Lib.hid ((HV.out.step hb2).congr (ys:=tks15 S p (k + 1)) (by rw [HNX.out]; simp))
     clear HCK hb2
     go_wp2_with fail
     go_roundw
     case rel => exact ⟨k + 1,A,m,c,rfl,by go_num,by omega,HN⟩
     case measure => simp [intOf]; omega
    | true =>
     go_wp2_with fail
     refine HCK.out.mono ?_
     rintro e w2 ⟨rfl,hb2⟩
     obtain ⟨Az,cz,W2,hrun,har,_⟩:=(HV.out.step hb2).push k (by omega)
     have HRUN:=Lib.hid hrun
     have HAR:=Lib.hid (har.congr (ys:=tks15 S p (k + 1)) (by rw [HNX.out]; simp))
     clear HCK hb2 hrun har
     go_wp2_with (at_builtin; go_loud (refine wpList_append_14 _ rfl (.tmp 22) (.tmp 24) 26 rfl _ _ _ _ rfl rfl HRUN.out ?_))
     go_roundw
     case rel => exact ⟨k + 1,Az,m + 1,cz,rfl,by go_num,by omega,HAR⟩
     case measure => simp [intOf]; omega
  ·
   obtain rfl:k = n1:=by omega
   have HL:=Lib.hid HW.out.l
   have h1:¬ (k:Int) < (k:Int):=by omega
   go_wp2_with fail
   go_ret
   rw [HP.out]
   exact ⟨A,c,by rw [HL.out]; rfl,HW.out.rd,(Fa17.of_own HW.out.o HW.out.l).more (by omega),HW.out.b.b⟩
set_option maxHeartbeats 4000000 in
theorem issued17 (v:Value) (S:Sv14) (c:Int) (w:World) (h:St14 w v S) :
  Calls Tryz.prog 86 #[v,.int .i64 c] w (RetO17 w (isd15 S c)):=by
 obtain ⟨A0,A1,A2,A3,A4,n0,n1,n2,n3,n4,c0,c1,c2,c3,c4,sq,rfl,hs⟩:=h
 have hx0:=Bx14.new hs
 have hxn:=hx0.step (Below.refl _ _).drew
 obtain ⟨W1,hW1⟩:∃ W,w.alloc (.cells #[.slice A0 n0 c0,.slice A1 n1 c1,.slice A2 n2 c2,.slice A3 n3 c3,.slice A4 n4 c4,.int .i64 sq] 28) = W:=⟨_,rfl⟩
 rw [hW1] at hx0 hxn
 obtain ⟨bc,hbc⟩:∃ b,us14 usC S.C c = b:=⟨_,rfl⟩
 have hb2:=b1' W1 (.cells #[.int .i64 c] 3)
 have hk2:=Blk.new W1 3 #[.int .i64 c]
 have hx2:=hx0.step hb2
 have hz1:W1.heap.size = w.heap.size + 1:=by rw [← hW1]; simp
 rw [hz1] at hk2
 obtain ⟨W2,hW2⟩:∃ W,W1.alloc (.cells #[.int .i64 c] 3) = W:=⟨_,rfl⟩
 rw [hW2] at hb2 hk2 hx2
 have HCC:=Lib.hid (coin14 _ S c bc W2 hx2.st hbc)
 have HX2:=Lib.hid hx2
 have HK2:=Lib.hid hk2
 have x0:=hx2.x.cell 0
 have x1:=hx2.x.cell 1
 have x2:=hx2.x.cell 2
 have x3:=hx2.x.cell 3
 have x4:=hx2.x.cell 4
 have x5:=hx2.x.cell 5
 have k0:=hk2.cell 0
 have HP:Hid (RetO17 w (isd15 S c) = fun e w' => ∃ A c2,e = .returned (.slice A (isd15 S c).length c2)∧Rd w' w'.heap.size A (isd15 S c)∧Fa17 w.heap.size A (isd15 S c)∧Below w.heap.size w w'):=Lib.hid rfl
 have HE:Hid (isd15 S c = if bc then tks15 S (isw15 c) S.T.length else []):=Lib.hid (by rw [isd15,hbc])
 clear hs hx0 hxn hbc hb2 hk2 hx2
 go_enter Tryz.func86,Tryz.ntmps86
 go_wp2_with fail
 refine HCC.out.mono ?_
 rintro e w3 ⟨rfl,hb3⟩
 have HX3:=Lib.hid (HX2.out.step hb3)
 have hk3:=HK2.out.below hb3 HK2.out.lt
 have HK3:=Lib.hid hk3
 clear HCC hb3
 cases bc with
 | false =>
  go_wp2_with fail
  go_ret
  rw [HP.out,HE.out]
  exact ⟨none,0,rfl,fun h => absurd rfl h,fun h => absurd rfl h,HX3.out.b⟩
 | true =>
  have y0:=HX3.out.x.cell 0
  have y1:=HX3.out.x.cell 1
  have y2:=HX3.out.x.cell 2
  have y3:=HX3.out.x.cell 3
  have y4:=HX3.out.x.cell 4
  have y5:=HX3.out.x.cell 5
  have HT:=Lib.hid (tickets17i _ S (w.heap.size + 1) w3 HX3.out.st (isw15 c) (fun W hW xu xc xa xk xt xo => isc15 xu xc xa xk xt xo _ c W ((HK3.out.below hW HK3.out.lt).cell 0)))
  go_wp2_with fail
  refine HT.out.mono ?_
  rintro e w4 ⟨A,c2,rfl,hr4,hfa4,hb4⟩
  have HFA:=Lib.hid (hfa4.more HX3.out.b.size)
  have HR4:=Lib.hid hr4
  have HB4:=Lib.hid (HX3.out.b.trans (hb4.mono HX3.out.b.size))
  clear HT hr4 hfa4 hb4
  go_wp2_with fail
  go_ret
  rw [HP.out,HE.out]
  exact ⟨A,c2,rfl,HR4.out,HFA.out,HB4.out⟩
def benc17 (xs:List Nat) (k:Nat):Array Value:=#[.int .i64 ((xs.length - 1 - k:Nat):Int),.int .i64 ((nth xs (xs.length - 1 - k):Nat):Int)]
def bkeep17 (Bs:Nat) (A:Option Addr) (xs:List Nat) (_:Nat) (p:Addr):Prop:=p.block = Bs∨xs≠[]∧∃ q,A = some q∧p.block = q.block
set_option maxHeartbeats 2000000 in
theorem back17_goes (F:Fence) (n:Nat) (hf:F.fn 118) (hro:F.round = none) (hn:1≤n) (Bs N c:Nat) (A:Option Addr) (xs:List Nat) (w:World) (hl:xs.length = N) (hi:Rd w w.heap.size A xs) (hN:N≤1000000)
  (hb:w.cell? ⟨Bs,0,none⟩ = some (.slice A N c)) :
  Goes F n Tryz.prog 118 #[.pointer (some ⟨Bs,0,none⟩)] (benc17 xs) (bkeep17 Bs A xs) N w:=fun l J Jx W hW _ _ hY h0 => by
 have hBs:=World.block_lt_of_cell? w _ hb
 have hb1:=(hW.cell hBs).trans hb
 have HI1:=Lib.hid (hi.below hW (Nat.le_refl _))
 have HLX:=Lib.hid hl
 have HWS:=Lib.hid hW.size
 clear hb hi hl
 refine callsIn_of_wp Tryz.func118 rfl hf ?_ hro
 simp only [Tryz.ntmps118,List.size_toArray,List.length_cons,List.length_nil,Nat.reduceAdd,Nat.reduceSub,Array.replicate_succ,Array.replicate_zero,List.push_toArray,List.append_toArray,List.nil_append,List.cons_append]
 gi_wp2
 gi_loopw [3] (fun i wr => ∃ (m:Nat) (j:Int),i = .int .i64 j∧j + 1 = (m:Int)∧m≤N∧J (N - m) wr∧wr.cell? ⟨Bs,0,none⟩ = some (.slice A N c)∧Hid (Rd wr w.heap.size A xs))
  (fun i _ => (intOf i + 1).toNat)
 case atStart =>
  exact ⟨N,_,rfl,by omega,Nat.le_refl _,by rw [Nat.sub_self]; exact h0,hb1,HI1⟩
 case round =>
  obtain ⟨m,j,rfl,hj,hm,hJ,hbx,HC⟩:=hrel
  by_cases hpos:0 < m
  ·
   obtain ⟨q,rfl⟩:∃ q,m = q + 1:=⟨m - 1,by omega⟩
   obtain rfl:j = (q:Int):=by omega
   obtain ⟨gx,ox,hA,hlt,hcx⟩:=HC.out.at_ (show q < xs.length by have:=HLX.out; omega)
   have HAX:=Lib.hid hA
   rw [hA] at hbx
   have hq0:(0:Int)≤(q:Int):=by omega
   have hq1:(q:Int) < (N:Int):=by omega
   obtain ⟨fn,tmps,assign,body,hy,hR⟩:=hY (N - (q + 1)) wr (by omega) hJ
   have he:N - 1 - (N - (q + 1)) = q:=by omega
   simp only [benc17,HLX.out,he] at hy
   obtain ⟨xq,hxq⟩:∃ x,nth xs q = x:=⟨_,rfl⟩
   rw [hxq] at hcx hy
   clear hxq hA
   clear he
   gi_wp2
   refine hR.mono ?_
   rintro e W3 (⟨rfl,hJ3,hk3⟩ | ⟨rfl,hJx3⟩)
   ·
    have HS:Hid (Same (bkeep17 Bs A xs (N - (q + 1))) wr W3):=Lib.hid hk3
    have HJ:=Lib.hid hJ3
    clear hk3 hJ3 hJ
    gi_wp2
    go_roundw
    case rel =>
     exact ⟨q,_,rfl,by omega,by omega,by have:=HJ.out; rwa [show N - (q + 1) + 1 = N - q by omega] at this,by rw [HAX.out]; exact HS.out.cell _ _ (.inl rfl) hbx,Lib.hid (fun hx => by
      obtain ⟨b,o,h1,h2,h3⟩:=HC.out hx
      exact ⟨b,o,h1,h2,fun t ht => HS.out.cell _ _ (.inr ⟨hx,_,h1,rfl⟩) (h3 t ht)⟩)⟩
    case measure => first | (simp [intOf]; done) | (simp [intOf]; omega)
   ·
    gi_wp2
    refine bodyPost_ret (results_none rfl _ _ _) rfl ?_
    exact ⟨⟨_,rfl⟩,.inr ⟨_,by omega,hJx3⟩⟩
  ·
   obtain rfl:m = 0:=by omega
   obtain rfl:j = -1:=by omega
   have HJ:Hid (J N wr):=Lib.hid (by simpa using hJ)
   clear hJ
   gi_wp2
   go_end0
   exact ⟨⟨_,rfl⟩,.inl HJ.out⟩
theorem bk17_trans {L g1:Nat} {r:Option Nat} {w w1 w':World} (h:Bk13 L g1 r w w1) (h':Bk13 L g1 r w1 w'):Bk13 L g1 r w w' :=
 ⟨h.below.trans h'.below,Nat.le_trans h.size h'.size,fun b hb h1 h2 => (h'.keep b (Nat.lt_of_lt_of_le hb h.size) h1 h2).trans (h.keep b hb h1 h2)⟩
theorem bk17_below {L g1:Nat} {r:Option Nat} {w w':World} (hL:L≤w.heap.size) (h:Below w.heap.size w w'):Bk13 L g1 r w w':=⟨h.mono hL,h.size,fun b hb _ _ => h.block b hb⟩
theorem bk17_set {L g1:Nat} {r:Option Nat} {w:World} {p:Addr} (hp:L≤p.block) (h:p.block = g1∨some p.block = r) (u:Value):Bk13 L g1 r w (w.setCell p u) :=
 ⟨(
  Below.refl _ _).setCell hp u,by simp [World.setCell],fun b _ h1 h2 => Below.heap_setCell w p u b (fun e => by
  subst e
  rcases h with h | h
  · exact h1 h
  · exact h2 h)⟩
theorem bk17_rd {L g1:Nat} {r:Option Nat} {w w':World} (h:Bk13 L g1 r w w') {A:Option Addr} {xs:List Nat} (hr:Rd w w.heap.size A xs) (ha:∀ q,xs≠[]→A = some q→q.block≠g1∧some q.block≠r):Rd w' w'.heap.size A xs:=fun hx => by
 obtain ⟨b,o,h1,h2,h3⟩:=hr hx
 have h4:=ha _ hx h1
 exact ⟨b,o,h1,Nat.lt_of_lt_of_le h2 h.size,fun k hk => (World.cell?_of_block (h.keep b h2 h4.1 h4.2)).trans (h3 k hk)⟩
theorem bk17_others {L g1 g2 n1 n2:Nat} {M:Nat→Bool} {Am:Nat→Nat} {w w':World} (h:Bk13 L g1 (some g2) w w') (h1:Bb13 w g1 n1 M) (h2:Ib13 w g2 n2 Am):KeepsOthers w w' :=
 ⟨h.size,fun k o hk ho => by
  have hlt:=(Array.getElem?_eq_some_iff.1 hk).1
  refine (h.keep k hlt (fun e => ?_) (fun e => ?_)).trans hk
  ·
   rw [e] at hk
   obtain ⟨cs,hb,_⟩:=h1
   rw [show w.heap[g1]? = _ from hb] at hk
   cases hk
   cases ho
  ·
   injection e with e
   rw [e] at hk
   obtain ⟨cs,hb,_⟩:=h2
   rw [show w.heap[g2]? = _ from hb] at hk
   cases hk
   cases ho⟩
theorem Bb13.far17 {w:World} {g n:Nat} {m:Nat→Bool} (q:Bb13 w g n m) {p:Addr} (hp:g≠p.block) (u:Value):Bb13 (w.setCell p u) g n m:=by
 obtain ⟨cs,h1,h2⟩:=q
 exact ⟨cs,h1.far hp u,h2⟩
theorem Bb13.lt17 {w:World} {g n:Nat} {m:Nat→Bool} (q:Bb13 w g n m):g < w.heap.size:=by
 obtain ⟨cs,h1,h2⟩:=q
 exact h1.lt
end Go.Proofs.YtgopgbfgbddggaaGreat
