/-
  SaidWorthTells, part 21 of 30: what the theorem worthTells_holds reaches.
-/
import Derived.Test.YtgopgbfgbddggaaGreatWT20
set_option linter.all false
namespace Go.Proofs.YtgopgbfgbddggaaGreat
open Go.RowKit
set_option maxRecDepth 100000
set_option maxHeartbeats 2000000 in
theorem used16 (v:Value) (S:Sv14) (i:Int) (b:Bool) (w:World) (h:St14 w v S) (hb:us14 usH S.H i = b) :
  Calls Tryz.prog 151 #[v,.int .i64 i] w fun e w' => e = .returned (.bool b)∧Below w.heap.size w w':=by
 obtain ⟨A0,A1,A2,A3,A4,n0,n1,n2,n3,n4,c0,c1,c2,c3,c4,sq,rfl,hs⟩:=h
 have hx0:=Bx14.new hs
 have hxn:=hx0.step (Below.refl _ _).drew
 obtain ⟨W1,hW1⟩:∃ W,w.alloc (.cells #[.slice A0 n0 c0,.slice A1 n1 c1,.slice A2 n2 c2,.slice A3 n3 c3,.slice A4 n4 c4,.int .i64 sq] 28) = W:=⟨_,rfl⟩
 rw [hW1] at hx0 hxn
 obtain ⟨x,hx⟩:∃ x,at14 usH S.H i = x:=⟨_,rfl⟩
 obtain ⟨xz,xf,xc,xq,xu⟩:=x
 have HX0:=Lib.hid hx0
 have p0:=hx0.x.cell 0
 have p1:=hx0.x.cell 1
 have p2:=hx0.x.cell 2
 have p3:=hx0.x.cell 3
 have p4:=hx0.x.cell 4
 have p5:=hx0.x.cell 5
 have HT:=Lib.hid (fun W h => thread14 (.agg #[.slice A0 n0 c0,.slice A1 n1 c1,.slice A2 n2 c2,.slice A3 n3 c3,.slice A4 n4 c4,.int .i64 sq]) S i xz xf xc xq xu b W h hb hx)
 clear hs hx0 hxn hb hx
 go_enter Tryz.func151,Tryz.ntmps151
 go_wp2_with fail
 refine (HT.out _ HX0.out.st).mono ?_
 rintro e u1 ⟨rfl,hb1⟩
 have HB1:=Lib.hid (HX0.out.b.trans (hb1.mono HX0.out.b.size))
 clear hb1 HT HX0 p0 p1 p2 p3 p4 p5 hW1
 go_wp2_with fail
 go_ret
 exact ⟨rfl,HB1.out.trans ((b1' _ _).mono HB1.out.size)⟩
set_option maxHeartbeats 4000000 in
theorem next16 (v:Value) (S:Sv14) (i:Int) (w:World) (h:St14 w v S) :
  Calls Tryz.prog 152 #[v,.int .i64 i] w fun e w' => e = .returned (.int .i64 (nxt16 S i))∧Below w.heap.size w w':=by
 obtain ⟨A0,A1,A2,A3,A4,n0,n1,n2,n3,n4,c0,c1,c2,c3,c4,sq,rfl,hs⟩:=h
 have hx0:=Bx14.new hs
 have hxn:=hx0.step (Below.refl _ _).drew
 obtain ⟨W1,hW1⟩:∃ W,w.alloc (.cells #[.slice A0 n0 c0,.slice A1 n1 c1,.slice A2 n2 c2,.slice A3 n3 c3,.slice A4 n4 c4,.int .i64 sq] 28) = W:=⟨_,rfl⟩
 rw [hW1] at hx0 hxn
 obtain ⟨x,hx⟩:∃ x,at14 usH S.H i = x:=⟨_,rfl⟩
 obtain ⟨xz,xf,xc,xq,xu⟩:=x
 obtain ⟨b,hb⟩:∃ b,us14 usH S.H i = b:=⟨_,rfl⟩
 obtain ⟨y,hy⟩:∃ y,at14 usL S.L xf = y:=⟨_,rfl⟩
 obtain ⟨yu,yh⟩:=y
 obtain ⟨c,hc⟩:∃ c,us14 usL S.L xf = c:=⟨_,rfl⟩
 have HN:Hid (nxt16 S i = if xz = 4 then xf else if xz = 6 then yh else -1):=Lib.hid (by rw [nxt16,hx,hy])
 have HX0:=Lib.hid hx0
 have p0:=hx0.x.cell 0
 have p1:=hx0.x.cell 1
 have p2:=hx0.x.cell 2
 have p3:=hx0.x.cell 3
 have p4:=hx0.x.cell 4
 have p5:=hx0.x.cell 5
 have HT:=Lib.hid (fun W h => thread14 (.agg #[.slice A0 n0 c0,.slice A1 n1 c1,.slice A2 n2 c2,.slice A3 n3 c3,.slice A4 n4 c4,.int .i64 sq]) S i xz xf xc xq xu b W h hb hx)
 have HK:=Lib.hid (fun W h => lock14 (.agg #[.slice A0 n0 c0,.slice A1 n1 c1,.slice A2 n2 c2,.slice A3 n3 c3,.slice A4 n4 c4,.int .i64 sq]) S xf yu yh c W h hc hy)
 clear hs hx0 hxn hb hx hc hy
 go_enter Tryz.func152,Tryz.ntmps152
 go_wp2_with fail
 refine (HT.out _ HX0.out.st).mono ?_
 rintro e u1 ⟨rfl,hb1⟩
 have HX1:=Lib.hid ((HX0.out.step hb1).step (b1' u1 (.cells #[.int .i64 xz,.int .i64 xf,.int .i64 xc,.int .i64 xq,.int .i64 xu] 58)))
 have hk1:=Blk.new u1 58 #[.int .i64 xz,.int .i64 xf,.int .i64 xc,.int .i64 xq,.int .i64 xu]
 obtain ⟨g1,hg1⟩:∃ g,u1.heap.size = g:=⟨_,rfl⟩
 have c0:=hk1.cell 0
 have c1:=hk1.cell 1
 have q0:=HX1.out.x.cell 0
 have q1:=HX1.out.x.cell 1
 have q2:=HX1.out.x.cell 2
 have q3:=HX1.out.x.cell 3
 have q4:=HX1.out.x.cell 4
 have q5:=HX1.out.x.cell 5
 clear hb1 hk1 HT HX0 p0 p1 p2 p3 p4 p5 hW1
 by_cases z4:xz = 4
 ·
  subst z4
  have HE:Hid (nxt16 S i = xf):=Lib.hid (by rw [HN.out,if_pos rfl])
  go_wp2_with fail
  go_ret
  exact ⟨by rw [HE.out]; rfl,HX1.out.b⟩
 ·
  have z4b:(xz == 4) = false:=by simp [z4]
  by_cases z6:xz = 6
  ·
   subst z6
   have HE:Hid (nxt16 S i = yh):=Lib.hid (by rw [HN.out,if_neg (by decide),if_pos rfl])
   go_wp2_with fail
   refine (HK.out _ HX1.out.st).mono ?_
   rintro e u2 ⟨rfl,hb2⟩
   have hk2:=Blk.new u2 78 #[.bool yu,.int .i64 yh]
   have d1:=hk2.cell 1
   have HB2:=Lib.hid (HX1.out.b.trans (hb2.mono HX1.out.b.size))
   clear hk2 hb2 HK HX1 q0 q1 q2 q3 q4 q5 c0 c1
   go_wp2_with fail
   go_ret
   exact ⟨by rw [HE.out]; rfl,HB2.out.trans ((b1' _ _).mono HB2.out.size)⟩
  ·
   have z6b:(xz == 6) = false:=by simp [z6]
   have HE:Hid (nxt16 S i = -1):=Lib.hid (by rw [HN.out,if_neg z4,if_neg z6])
   go_wp2_with fail
   go_ret
   exact ⟨by rw [HE.out]; rfl,HX1.out.b⟩
set_option maxHeartbeats 8000000 in
theorem tail16 (v:Value) (S:Sv14) (i:Int) (l:List Nat) (w:World) (h:St14 w v S) (hf:Fine14 S) (hl:Tl16 S i l) :
  Calls Tryz.prog 148 #[v,.int .i64 i] w (RetR15 w l):=by
 obtain ⟨A0,A1,A2,A3,A4,n0,n1,n2,n3,n4,c0,c1,c2,c3,c4,sq,rfl,hs⟩:=h
 have HP:Hid (RetR15 w l = fun e w' => ∃ A c,e = .returned (.slice A l.length c)∧Rd w' w'.heap.size A l∧Below w.heap.size w w'):=Lib.hid rfl
 have HX0:Hid (Ti15 w (w.heap.size + 1) S A0 A1 A2 A3 A4 n0 n1 n2 n3 n4 c0 c1 c2 c3 c4 sq none 0 0 [] (w.alloc (.cells #[.slice A0 n0 c0,.slice A1 n1 c1,.slice A2 n2 c2,.slice A3 n3 c3,.slice A4 n4 c4,.int .i64 sq] 28))):=Lib.hid (Ti15.start hs (Bx14.new hs) (by omega) (by simp))
 have HL2:=Lib.hid hs.l2
 have hm2:=hs.m2
 have HLN:Hid (l.length≤n2):=Lib.hid (by have:=hl.len hf; rw [hs.l2] at this; exact this)
 have HF:=Lib.hid hf
 have HI:=Lib.hid hl
 have HU:=Lib.hid (fun W j b (h:Bx14 w S A0 A1 A2 A3 A4 n0 n1 n2 n3 n4 c0 c1 c2 c3 c4 sq W) hb => used16 (.agg #[.slice A0 n0 c0,.slice A1 n1 c1,.slice A2 n2 c2,.slice A3 n3 c3,.slice A4 n4 c4,.int .i64 sq]) S j b W h.st hb)
 have HN:=Lib.hid (fun W j (h:Bx14 w S A0 A1 A2 A3 A4 n0 n1 n2 n3 n4 c0 c1 c2 c3 c4 sq W) => next16 (.agg #[.slice A0 n0 c0,.slice A1 n1 c1,.slice A2 n2 c2,.slice A3 n3 c3,.slice A4 n4 c4,.int .i64 sq]) S j W h.st)
 clear hs hf hl
 go_enter Tryz.func148,Tryz.ntmps148
 go_wp2_with fail
 go_loopg [1,4] (n2 + 1) (fun kx iv ov wr => ∃ (j:Int) (r p:List Nat) (A:Option Addr) (m c:Nat),iv = .int .i64 j∧ov = .slice A m c∧m + kx = n2 + 1∧m≤n2∧Hid (Tl16 S j r)∧Hid (p ++ r = l)∧Hid (Ti15 w (w.heap.size + 1) S A0 A1 A2 A3 A4 n0 n1 n2 n3 n4 c0 c1 c2 c3 c4 sq A m c p wr))
 case atStart => exact ⟨i,l,[],none,0,0,rfl,rfl,by omega,by omega,HI,Lib.hid rfl,HX0⟩
 case round =>
  clear HX0 HI
  obtain ⟨j,r,p,A,m,c,rfl,rfl,hm,hmn,HI,HA,HW⟩:=hrel
  have p0:=HW.out.b.x.cell 0
  have p1:=HW.out.b.x.cell 1
  have p2:=HW.out.b.x.cell 2
  have p3:=HW.out.b.x.cell 3
  have p4:=HW.out.b.x.cell 4
  have p5:=HW.out.b.x.cell 5
  cases hu:us14 usH S.H j with
  | false =>
   have hc:=HU.out wr j false HW.out.b hu
   have HE:Hid (p = l):=Lib.hid (by rw [← HA.out,HI.out.no hu,List.append_nil])
   have HCU:=Lib.hid hc
   clear hc hu
   go_wp2_with fail
   refine HCU.out.mono ?_
   rintro e u1 ⟨rfl,hb1⟩
   have HW1:=Lib.hid (HW.out.step (hb1))
   clear hb1 HCU
   go_wp2_with fail
   go_ret
   rw [HP.out]
   exact ⟨A,c,by rw [← HW1.out.l,HE.out]; rfl,by rw [← HE.out]; exact HW1.out.rd,HW1.out.b.b⟩
  | true =>
   obtain ⟨k,r2,hk,hr,ht⟩:=HI.out.cons HF.out hu
   subst hk hr
   have hc:=HU.out wr (k:Int) true HW.out.b hu
   have HCU:=Lib.hid hc
   have HT:=Lib.hid ht
   have hlt:m < n2:=by
    have h1:=HLN.out
    have h2:=HW.out.l
    rw [← HA.out,List.length_append,List.length_cons] at h1
    omega
   have hltI:(m:Int) < (n2:Int):=by omega
   have HCN:=Lib.hid (fun W h => HN.out W (k:Int) h)
   clear hc hu ht
   go_wp2_with fail
   refine HCU.out.mono ?_
   rintro e u1 ⟨rfl,hb1⟩
   have HW1:=Lib.hid (HW.out.step (hb1))
   have q0:=HW1.out.b.x.cell 0
   have q1:=HW1.out.b.x.cell 1
   have q2:=HW1.out.b.x.cell 2
   have q3:=HW1.out.b.x.cell 3
   have q4:=HW1.out.b.x.cell 4
   have q5:=HW1.out.b.x.cell 5
   obtain ⟨Az,cz,W2,hrun,hti,hbl⟩:=HW1.out.push k (by omega)
   have HRUN:=Lib.hid hrun
   have HW2:=Lib.hid hti
   have y0:=HW2.out.b.x.cell 0
   have y1:=HW2.out.b.x.cell 1
   have y2:=HW2.out.b.x.cell 2
   have y3:=HW2.out.b.x.cell 3
   have y4:=HW2.out.b.x.cell 4
   have y5:=HW2.out.b.x.cell 5
   clear hb1 HCU hrun hti hbl
   go_wp2_with (at_builtin; go_loud (refine wpList_append_14 _ rfl (.tmp 16) (.tmp 18) 26 rfl _ _ _ _ rfl rfl HRUN.out ?_))
   refine (HCN.out _ HW2.out.b).mono ?_
   rintro e u3 ⟨rfl,hb3⟩
   have HW3:=Lib.hid (HW2.out.step hb3)
   clear hb3
   go_wp2_with fail
   go_roundg (n2 + 1 - (m + 1))
   case measure => omega
   case rel => exact ⟨nxt16 S (k:Int),r2,p ++ [k],Az,m + 1,cz,rfl,rfl,by omega,by omega,HT,Lib.hid (by rw [← HA.out]; simp),HW3⟩
structure By16 (w:World) (S:Sv14) (A0 A1 A2 A3 A4:Option Addr) (n0 n1 n2 n3 n4 c0 c1 c2 c3 c4:Nat) (sq:Int) (W:World):Prop where
 b:Bx14 w S A0 A1 A2 A3 A4 n0 n1 n2 n3 n4 c0 c1 c2 c3 c4 sq W
 s:SA14 w S A0 A1 A2 A3 A4 n0 n1 n2 n3 n4 c0 c1 c2 c3 c4 sq
theorem By16.step {w:World} {S:Sv14} {A0 A1 A2 A3 A4:Option Addr} {n0 n1 n2 n3 n4 c0 c1 c2 c3 c4:Nat} {sq:Int} {W W':World} (h:By16 w S A0 A1 A2 A3 A4 n0 n1 n2 n3 n4 c0 c1 c2 c3 c4 sq W) (hb:Below W.heap.size W W'):By16 w S A0 A1 A2 A3 A4 n0 n1 n2 n3 n4 c0 c1 c2 c3 c4 sq W':=⟨h.b.step hb,h.s⟩
theorem By16.low {w:World} {S:Sv14} {A0 A1 A2 A3 A4:Option Addr} {n0 n1 n2 n3 n4 c0 c1 c2 c3 c4:Nat} {sq:Int} {W W':World} (h:By16 w S A0 A1 A2 A3 A4 n0 n1 n2 n3 n4 c0 c1 c2 c3 c4 sq W) (hb:Below (w.heap.size + 1) W W'):By16 w S A0 A1 A2 A3 A4 n0 n1 n2 n3 n4 c0 c1 c2 c3 c4 sq W' :=
 ⟨⟨h.b.b.trans (hb.mono (by omega)),h.b.x.below hb (by omega),h.s.step (h.b.b.trans (hb.mono (by omega)))⟩,h.s⟩
set_option maxHeartbeats 4000000 in
theorem end16 (v:Value) (S:Sv14) (i:Int) (l:List Nat) (w:World) (h:St14 w v S) (hf:Fine14 S) (hl:Tl16 S i l) :
  Calls Tryz.prog 143 #[v,.int .i64 i] w fun e w' => e = .returned (.int .i64 (en16 l))∧Below w.heap.size w w':=by
 obtain ⟨A0,A1,A2,A3,A4,n0,n1,n2,n3,n4,c0,c1,c2,c3,c4,sq,rfl,hs⟩:=h
 have hx0:=Bx14.new hs
 have hxn:=hx0.step (Below.refl _ _).drew
 obtain ⟨W1,hW1⟩:∃ W,w.alloc (.cells #[.slice A0 n0 c0,.slice A1 n1 c1,.slice A2 n2 c2,.slice A3 n3 c3,.slice A4 n4 c4,.int .i64 sq] 28) = W:=⟨_,rfl⟩
 rw [hW1] at hx0 hxn
 have HX0:=Lib.hid hx0
 have p0:=hx0.x.cell 0
 have p1:=hx0.x.cell 1
 have p2:=hx0.x.cell 2
 have p3:=hx0.x.cell 3
 have p4:=hx0.x.cell 4
 have p5:=hx0.x.cell 5
 have HLN:Hid (l.length≤1000000):=Lib.hid (by have:=hl.len hf; have:=hs.l2; have:=hs.m2; omega)
 have HT:=Lib.hid (fun W h => tail16 (.agg #[.slice A0 n0 c0,.slice A1 n1 c1,.slice A2 n2 c2,.slice A3 n3 c3,.slice A4 n4 c4,.int .i64 sq]) S i l W h hf hl)
 clear hs hx0 hxn hf hl
 go_enter Tryz.func143,Tryz.ntmps143
 go_wp2_with fail
 refine (HT.out _ HX0.out.st).mono ?_
 rintro e u1 ⟨A,c,rfl,hr,hb1⟩
 have HB1:=Lib.hid (HX0.out.b.trans (hb1.mono HX0.out.b.size))
 clear hb1 HT HX0 p0 p1 p2 p3 p4 p5 hW1
 by_cases hl0:l = []
 ·
  subst hl0
  have HE:Hid (en16 [] = -1):=Lib.hid rfl
  clear hr
  go_wp2_with fail
  go_ret
  exact ⟨by rw [HE.out]; rfl,HB1.out⟩
 ·
  obtain ⟨d,hd⟩:∃ d,l.length = d + 1:=⟨l.length - 1,by have:=List.length_pos_iff.2 hl0; omega⟩
  obtain ⟨a,of,hA,hab,hq⟩:=hr.at_ (show d < l.length by omega)
  subst hA
  have HE:Hid (en16 l = ((nth l d:Nat):Int)):=Lib.hid (by rw [en16,if_neg hl0,lst16,hd]; rfl)
  have hnz:(((d + 1:Nat):Int) == 0) = false:=by simp; omega
  have hdm:d + 1≤1000000:=by have:=HLN.out; omega
  rw [hd]
  clear hr hab hd hl0
  have i0:(0:Int)≤(d:Int):=by omega
  have i1:(d:Int) < ((d + 1:Nat):Int):=by omega
  have hsb:((d + 1:Nat):Int) - 1 = (d:Int):=by omega
  go_wp2_with fail
  go_ret
  exact ⟨by rw [HE.out]; rfl,HB1.out⟩
set_option maxHeartbeats 8000000 in
theorem lives16 (v:Value) (S:Sv14) (i:Int) (l:List Nat) (w:World) (h:St14 w v S) (hf:Fine14 S) (hl:Tl16 S i l) :
  Calls Tryz.prog 131 #[v,.int .i64 i] w fun e w' => e = .returned (.bool (lv16 S (en16 l)))∧Below w.heap.size w w':=by
 obtain ⟨A0,A1,A2,A3,A4,n0,n1,n2,n3,n4,c0,c1,c2,c3,c4,sq,rfl,hs⟩:=h
 have hx0:By16 w S A0 A1 A2 A3 A4 n0 n1 n2 n3 n4 c0 c1 c2 c3 c4 sq _:=⟨Bx14.new hs,hs⟩
 have hxn:=hx0.step (Below.refl _ _).drew
 obtain ⟨W1,hW1⟩:∃ W,w.alloc (.cells #[.slice A0 n0 c0,.slice A1 n1 c1,.slice A2 n2 c2,.slice A3 n3 c3,.slice A4 n4 c4,.int .i64 sq] 28) = W:=⟨_,rfl⟩
 rw [hW1] at hx0 hxn
 obtain ⟨x,hx⟩:∃ x,at14 usH S.H (en16 l) = x:=⟨_,rfl⟩
 obtain ⟨xz,xf,xc,xq,xu⟩:=x
 obtain ⟨b,hb⟩:∃ b,us14 usH S.H (en16 l) = b:=⟨_,rfl⟩
 have HLV:Hid (lv16 S (en16 l) = ((xz == 2) || (xz == 3))):=Lib.hid (by rw [lv16,hx])
 have HE:=Lib.hid (fun W h => end16 (.agg #[.slice A0 n0 c0,.slice A1 n1 c1,.slice A2 n2 c2,.slice A3 n3 c3,.slice A4 n4 c4,.int .i64 sq]) S i l W h hf hl)
 have HT:=Lib.hid (fun W h => thread14 (.agg #[.slice A0 n0 c0,.slice A1 n1 c1,.slice A2 n2 c2,.slice A3 n3 c3,.slice A4 n4 c4,.int .i64 sq]) S (en16 l) xz xf xc xq xu b W h hb hx)
 have HXN:=Lib.hid hxn
 clear hs hx0 hxn hf hl hx hb
 go_enter Tryz.func131,Tryz.ntmps131
 obtain ⟨wn,hwn⟩:∃ W,W1.drew = W:=⟨_,rfl⟩
 rw [hwn] at HXN
 go_wp2_with fail
 refine wp_region_held_drew (S:=By16 w S A0 A1 A2 A3 A4 n0 n1 n2 n3 n4 c0 c1 c2 c3 c4 sq) (by kernel_rfl) (by rw [hwn]; exact HXN.out) (fun hHeld => ?_)
 rw [hwn] at hHeld ⊢
 clear hwn
 have HBS:=HXN
 refine tk 0 (v:=?_) (fun W hS => ?_) ?_
 rotate_left
 ·
  try dsimp only at hS
  have z0:=hS.b.x.cell 0
  have z1:=hS.b.x.cell 1
  have z2:=hS.b.x.cell 2
  have z3:=hS.b.x.cell 3
  have z4:=hS.b.x.cell 4
  have z5:=hS.b.x.cell 5
  go_simp
  try with_reducible rfl
 try simp only [Act.put,pt1,pt2,pt3]
 refine tk 1 (v:=?_) (fun W hS => ?_) ?_
 rotate_left
 ·
  try dsimp only at hS
  have z0:=hS.b.x.cell 0
  have z1:=hS.b.x.cell 1
  have z2:=hS.b.x.cell 2
  have z3:=hS.b.x.cell 3
  have z4:=hS.b.x.cell 4
  have z5:=hS.b.x.cell 5
  go_simp
  try with_reducible rfl
 try simp only [Act.put,pt1,pt2,pt3]
 refine tk 2 (v:=?_) (fun W hS => ?_) ?_
 rotate_left
 · (go_simp; try with_reducible rfl)
 try simp only [Act.put,pt1,pt2,pt3]
 refine wpAnyH_ready (rs:=[3,8]) (by kernel_rfl) (by simp) (AllReadyH.cons (op_of rfl) (fun K hK => ?_) (AllReadyH.cons (op_of rfl) (fun K hK => ?_) AllReadyH.nil))
 ·
  skip
  have HBS0:=HBS
  go_simp
  refine (HE.out _ HBS0.out.b.st).mono ?_
  rintro e wo ⟨rfl,hb⟩
  have HBS:=Lib.hid (HBS0.out.step hb)
  clear hb HBS0
  obtain ⟨wn,hwn⟩:∃ W,W = wo:=⟨_,rfl⟩
  subst hwn
  refine hK.out _ _ HBS.out (fun hHeld => ?_)
  clear hK K
  try simp only [Act.put,pt1,pt2,pt3]
  refine wpAnyH_ready (rs:=[4,8]) (by kernel_rfl) (by simp) (AllReadyH.cons (op_of rfl) (fun K hK => ?_) (AllReadyH.cons (op_of rfl) (fun K hK => ?_) AllReadyH.nil))
  ·
   skip
   have HBS0:=HBS
   go_simp
   refine (HT.out _ HBS0.out.b.st).mono ?_
   rintro e wo ⟨rfl,hb⟩
   have HBS:=Lib.hid (HBS0.out.step hb)
   clear hb HBS0
   obtain ⟨wn,hwn⟩:∃ W,W = wo:=⟨_,rfl⟩
   subst hwn
   refine hK.out _ _ HBS.out (fun hHeld => ?_)
   clear hK K
   try simp only [Act.put,pt1,pt2,pt3]
   refine tk 5 (v:=?_) (fun W hS => ?_) ?_
   rotate_left
   · (go_simp; try with_reducible rfl)
   try simp only [Act.put,pt1,pt2,pt3]
   refine tk 6 (v:=?_) (fun W hS => ?_) ?_
   rotate_left
   · (go_simp; try with_reducible rfl)
   try simp only [Act.put,pt1,pt2,pt3]
   refine tk 7 (v:=?_) (fun W hS => ?_) ?_
   rotate_left
   · (go_simp; try with_reducible rfl)
   try simp only [Act.put,pt1,pt2,pt3]
   refine rdy 8 (fun K hK => ?_)
   have HBS0:=HBS
   go_simp
   have HBS:=Lib.hid (HBS0.out.step (b1' wn (.cells #[.int .i64 0,.int .i64 0,.int .i64 0,.int .i64 0,.int .i64 0] 58)))
   have HK0:=Lib.hid (Blk.new wn 58 #[.int .i64 0,.int .i64 0,.int .i64 0,.int .i64 0,.int .i64 0])
   have hgl:w.heap.size < wn.heap.size:=HBS0.out.b.x.lt
   obtain ⟨g,hg⟩:∃ g,wn.heap.size = g:=⟨_,rfl⟩
   obtain ⟨wm,hwm⟩:∃ W,wn.alloc (.cells #[.int .i64 0,.int .i64 0,.int .i64 0,.int .i64 0,.int .i64 0] 58) = W:=⟨_,rfl⟩
   rw [hg] at HK0 hgl
   rw [hwm] at HBS HK0
   rw [hg,hwm]
   clear hg hwm HBS0
   obtain ⟨wn,hwn⟩:∃ W,W = wm:=⟨_,rfl⟩
   subst hwn
   refine hK.out _ _ HBS.out (fun hHeld => ?_)
   clear hK K
   try simp only [Act.put,pt1,pt2,pt3]
   refine rdy 9 (fun K hK => ?_)
   have k0:=HK0.out.cell 0
   have k1:=HK0.out.cell 1
   have k2:=HK0.out.cell 2
   have k3:=HK0.out.cell 3
   have k4:=HK0.out.cell 4
   have f0:=HK0.out.frozen 0
   have f1:=HK0.out.frozen 1
   have f2:=HK0.out.frozen 2
   have f3:=HK0.out.frozen 3
   have f4:=HK0.out.frozen 4
   go_simp
   obtain ⟨wm,hwm⟩:∃ W,((((wn.setCell ⟨g,0,none⟩ (.int .i64 xz)).setCell ⟨g,1,none⟩ (.int .i64 xf)).setCell ⟨g,2,none⟩ (.int .i64 xc)).setCell ⟨g,3,none⟩ (.int .i64 xq)).setCell ⟨g,4,none⟩ (.int .i64 xu) = W:=⟨_,rfl⟩
   have hk2:Blk wm g 58 #[.int .i64 xz,.int .i64 xf,.int .i64 xc,.int .i64 xq,.int .i64 xu]:=by
    rw [← hwm]
    have h:=((((HK0.out.set_ 0 (.int .i64 xz)).set_ 1 (.int .i64 xf)).set_ 2 (.int .i64 xc)).set_ 3 (.int .i64 xq)).set_ 4 (.int .i64 xu)
    simpa using h
   have hl5:Below (w.heap.size + 1) wn wm:=by
    rw [← hwm]
    exact (((((Below.refl _ _).setCell (p:=⟨g,0,none⟩) hgl _).setCell (p:=⟨g,1,none⟩) hgl _).setCell (p:=⟨g,2,none⟩) hgl _).setCell (p:=⟨g,3,none⟩) hgl _).setCell (p:=⟨g,4,none⟩) hgl _
   rw [hwm]
   have HBS0:=HBS
   have HBS:=Lib.hid (HBS0.out.low hl5)
   have HK1:=Lib.hid hk2
   clear hwm hk2 hl5 HK0 HBS0 k0 f0 k1 f1 k2 f2 k3 f3 k4 f4
   obtain ⟨wn,hwn⟩:∃ W,W = wm:=⟨_,rfl⟩
   subst hwn
   refine hK.out _ _ HBS.out (fun hHeld => ?_)
   clear hK K
   try simp only [Act.put,pt1,pt2,pt3]
   refine rdy 10 (fun K hK => ?_)
   go_simp
   refine hK.out _ _ HBS.out (fun hHeld => ?_)
   clear hK K
   try simp only [Act.put,pt1,pt2,pt3]
   refine wpAnyH_done (by kernel_rfl) ?_ _
   clear hHeld
   have c0:=HK1.out.cell 0
   have HB:=Lib.hid HBS.out.b.b
   clear HK1 HBS HXN
   by_cases z2:xz = 2
   ·
    subst z2
    have HE:Hid (lv16 S (en16 l) = true):=Lib.hid (by rw [HLV.out]; rfl)
    go_wp2_with fail
    go_ret
    exact ⟨by rw [HE.out]; rfl,HB.out⟩
   ·
    have hz2:(xz == 2) = false:=by simp [z2]
    have HE:Hid (lv16 S (en16 l) = (xz == 3)):=Lib.hid (by rw [HLV.out,hz2]; rfl)
    go_wp2_with fail
    go_ret
    exact ⟨by rw [HE.out]; rfl,HB.out⟩
  ·
   skip
   have HBS0:=HBS
   go_simp
   have HBS:=Lib.hid (HBS0.out.step (b1' wn (.cells #[.int .i64 0,.int .i64 0,.int .i64 0,.int .i64 0,.int .i64 0] 58)))
   have HK0:=Lib.hid (Blk.new wn 58 #[.int .i64 0,.int .i64 0,.int .i64 0,.int .i64 0,.int .i64 0])
   have hgl:w.heap.size < wn.heap.size:=HBS0.out.b.x.lt
   obtain ⟨g,hg⟩:∃ g,wn.heap.size = g:=⟨_,rfl⟩
   obtain ⟨wm,hwm⟩:∃ W,wn.alloc (.cells #[.int .i64 0,.int .i64 0,.int .i64 0,.int .i64 0,.int .i64 0] 58) = W:=⟨_,rfl⟩
   rw [hg] at HK0 hgl
   rw [hwm] at HBS HK0
   rw [hg,hwm]
   clear hg hwm HBS0
   obtain ⟨wn,hwn⟩:∃ W,W = wm:=⟨_,rfl⟩
   subst hwn
   refine hK.out _ _ HBS.out (fun hHeld => ?_)
   clear hK K
   try simp only [Act.put,pt1,pt2,pt3]
   refine rdy 4 (fun K hK => ?_)
   have HBS0:=HBS
   go_simp
   refine (HT.out _ HBS0.out.b.st).mono ?_
   rintro e wo ⟨rfl,hb⟩
   have HBS:=Lib.hid (HBS0.out.step hb)
   have HK0:=Lib.hid (HK0.out.below hb HK0.out.lt)
   clear hb HBS0
   obtain ⟨wn,hwn⟩:∃ W,W = wo:=⟨_,rfl⟩
   subst hwn
   refine hK.out _ _ HBS.out (fun hHeld => ?_)
   clear hK K
   try simp only [Act.put,pt1,pt2,pt3]
   refine tk 5 (v:=?_) (fun W hS => ?_) ?_
   rotate_left
   · (go_simp; try with_reducible rfl)
   try simp only [Act.put,pt1,pt2,pt3]
   refine tk 6 (v:=?_) (fun W hS => ?_) ?_
   rotate_left
   · (go_simp; try with_reducible rfl)
   try simp only [Act.put,pt1,pt2,pt3]
   refine tk 7 (v:=?_) (fun W hS => ?_) ?_
   rotate_left
   · (go_simp; try with_reducible rfl)
   try simp only [Act.put,pt1,pt2,pt3]
   refine rdy 9 (fun K hK => ?_)
   have k0:=HK0.out.cell 0
   have k1:=HK0.out.cell 1
   have k2:=HK0.out.cell 2
   have k3:=HK0.out.cell 3
   have k4:=HK0.out.cell 4
   have f0:=HK0.out.frozen 0
   have f1:=HK0.out.frozen 1
   have f2:=HK0.out.frozen 2
   have f3:=HK0.out.frozen 3
   have f4:=HK0.out.frozen 4
   go_simp
   obtain ⟨wm,hwm⟩:∃ W,((((wn.setCell ⟨g,0,none⟩ (.int .i64 xz)).setCell ⟨g,1,none⟩ (.int .i64 xf)).setCell ⟨g,2,none⟩ (.int .i64 xc)).setCell ⟨g,3,none⟩ (.int .i64 xq)).setCell ⟨g,4,none⟩ (.int .i64 xu) = W:=⟨_,rfl⟩
   have hk2:Blk wm g 58 #[.int .i64 xz,.int .i64 xf,.int .i64 xc,.int .i64 xq,.int .i64 xu]:=by
    rw [← hwm]
    have h:=((((HK0.out.set_ 0 (.int .i64 xz)).set_ 1 (.int .i64 xf)).set_ 2 (.int .i64 xc)).set_ 3 (.int .i64 xq)).set_ 4 (.int .i64 xu)
    simpa using h
   have hl5:Below (w.heap.size + 1) wn wm:=by
    rw [← hwm]
    exact (((((Below.refl _ _).setCell (p:=⟨g,0,none⟩) hgl _).setCell (p:=⟨g,1,none⟩) hgl _).setCell (p:=⟨g,2,none⟩) hgl _).setCell (p:=⟨g,3,none⟩) hgl _).setCell (p:=⟨g,4,none⟩) hgl _
   rw [hwm]
   have HBS0:=HBS
   have HBS:=Lib.hid (HBS0.out.low hl5)
   have HK1:=Lib.hid hk2
   clear hwm hk2 hl5 HK0 HBS0 k0 f0 k1 f1 k2 f2 k3 f3 k4 f4
   obtain ⟨wn,hwn⟩:∃ W,W = wm:=⟨_,rfl⟩
   subst hwn
   refine hK.out _ _ HBS.out (fun hHeld => ?_)
   clear hK K
   try simp only [Act.put,pt1,pt2,pt3]
   refine rdy 10 (fun K hK => ?_)
   go_simp
   refine hK.out _ _ HBS.out (fun hHeld => ?_)
   clear hK K
   try simp only [Act.put,pt1,pt2,pt3]
   refine wpAnyH_done (by kernel_rfl) ?_ _
   clear hHeld
   have c0:=HK1.out.cell 0
   have HB:=Lib.hid HBS.out.b.b
   clear HK1 HBS HXN
   by_cases z2:xz = 2
   ·
    subst z2
    have HE:Hid (lv16 S (en16 l) = true):=Lib.hid (by rw [HLV.out]; rfl)
    go_wp2_with fail
    go_ret
    exact ⟨by rw [HE.out]; rfl,HB.out⟩
   ·
    have hz2:(xz == 2) = false:=by simp [z2]
    have HE:Hid (lv16 S (en16 l) = (xz == 3)):=Lib.hid (by rw [HLV.out,hz2]; rfl)
    go_wp2_with fail
    go_ret
    exact ⟨by rw [HE.out]; rfl,HB.out⟩
 ·
  skip
  have HBS0:=HBS
  go_simp
  have HBS:=Lib.hid (HBS0.out.step (b1' wn (.cells #[.int .i64 0,.int .i64 0,.int .i64 0,.int .i64 0,.int .i64 0] 58)))
  have HK0:=Lib.hid (Blk.new wn 58 #[.int .i64 0,.int .i64 0,.int .i64 0,.int .i64 0,.int .i64 0])
  have hgl:w.heap.size < wn.heap.size:=HBS0.out.b.x.lt
  obtain ⟨g,hg⟩:∃ g,wn.heap.size = g:=⟨_,rfl⟩
  obtain ⟨wm,hwm⟩:∃ W,wn.alloc (.cells #[.int .i64 0,.int .i64 0,.int .i64 0,.int .i64 0,.int .i64 0] 58) = W:=⟨_,rfl⟩
  rw [hg] at HK0 hgl
  rw [hwm] at HBS HK0
  rw [hg,hwm]
  clear hg hwm HBS0
  obtain ⟨wn,hwn⟩:∃ W,W = wm:=⟨_,rfl⟩
  subst hwn
  refine hK.out _ _ HBS.out (fun hHeld => ?_)
  clear hK K
  try simp only [Act.put,pt1,pt2,pt3]
  refine rdy 3 (fun K hK => ?_)
  have HBS0:=HBS
  go_simp
  refine (HE.out _ HBS0.out.b.st).mono ?_
  rintro e wo ⟨rfl,hb⟩
  have HBS:=Lib.hid (HBS0.out.step hb)
  have HK0:=Lib.hid (HK0.out.below hb HK0.out.lt)
  clear hb HBS0
  obtain ⟨wn,hwn⟩:∃ W,W = wo:=⟨_,rfl⟩
  subst hwn
  refine hK.out _ _ HBS.out (fun hHeld => ?_)
  clear hK K
  try simp only [Act.put,pt1,pt2,pt3]
  refine rdy 4 (fun K hK => ?_)
  have HBS0:=HBS
  go_simp
  refine (HT.out _ HBS0.out.b.st).mono ?_
  rintro e wo ⟨rfl,hb⟩
  have HBS:=Lib.hid (HBS0.out.step hb)
  have HK0:=Lib.hid (HK0.out.below hb HK0.out.lt)
  clear hb HBS0
  obtain ⟨wn,hwn⟩:∃ W,W = wo:=⟨_,rfl⟩
  subst hwn
  refine hK.out _ _ HBS.out (fun hHeld => ?_)
  clear hK K
  try simp only [Act.put,pt1,pt2,pt3]
  refine tk 5 (v:=?_) (fun W hS => ?_) ?_
  rotate_left
  · (go_simp; try with_reducible rfl)
  try simp only [Act.put,pt1,pt2,pt3]
  refine tk 6 (v:=?_) (fun W hS => ?_) ?_
  rotate_left
  · (go_simp; try with_reducible rfl)
  try simp only [Act.put,pt1,pt2,pt3]
  refine tk 7 (v:=?_) (fun W hS => ?_) ?_
  rotate_left
  · (go_simp; try with_reducible rfl)
  try simp only [Act.put,pt1,pt2,pt3]
  refine rdy 9 (fun K hK => ?_)
  have k0:=HK0.out.cell 0
  have k1:=HK0.out.cell 1
  have k2:=HK0.out.cell 2
  have k3:=HK0.out.cell 3
  have k4:=HK0.out.cell 4
  have f0:=HK0.out.frozen 0
  have f1:=HK0.out.frozen 1
  have f2:=HK0.out.frozen 2
  have f3:=HK0.out.frozen 3
  have f4:=HK0.out.frozen 4
  go_simp
  obtain ⟨wm,hwm⟩:∃ W,((((wn.setCell ⟨g,0,none⟩ (.int .i64 xz)).setCell ⟨g,1,none⟩ (.int .i64 xf)).setCell ⟨g,2,none⟩ (.int .i64 xc)).setCell ⟨g,3,none⟩ (.int .i64 xq)).setCell ⟨g,4,none⟩ (.int .i64 xu) = W:=⟨_,rfl⟩
  have hk2:Blk wm g 58 #[.int .i64 xz,.int .i64 xf,.int .i64 xc,.int .i64 xq,.int .i64 xu]:=by
   rw [← hwm]
   have h:=((((HK0.out.set_ 0 (.int .i64 xz)).set_ 1 (.int .i64 xf)).set_ 2 (.int .i64 xc)).set_ 3 (.int .i64 xq)).set_ 4 (.int .i64 xu)
   simpa using h
  have hl5:Below (w.heap.size + 1) wn wm:=by
   rw [← hwm]
   exact (((((Below.refl _ _).setCell (p:=⟨g,0,none⟩) hgl _).setCell (p:=⟨g,1,none⟩) hgl _).setCell (p:=⟨g,2,none⟩) hgl _).setCell (p:=⟨g,3,none⟩) hgl _).setCell (p:=⟨g,4,none⟩) hgl _
  rw [hwm]
  have HBS0:=HBS
  have HBS:=Lib.hid (HBS0.out.low hl5)
  have HK1:=Lib.hid hk2
  clear hwm hk2 hl5 HK0 HBS0 k0 f0 k1 f1 k2 f2 k3 f3 k4 f4
  obtain ⟨wn,hwn⟩:∃ W,W = wm:=⟨_,rfl⟩
  subst hwn
  refine hK.out _ _ HBS.out (fun hHeld => ?_)
  clear hK K
  try simp only [Act.put,pt1,pt2,pt3]
  refine rdy 10 (fun K hK => ?_)
  go_simp
  refine hK.out _ _ HBS.out (fun hHeld => ?_)
  clear hK K
  try simp only [Act.put,pt1,pt2,pt3]
  refine wpAnyH_done (by kernel_rfl) ?_ _
  clear hHeld
  have c0:=HK1.out.cell 0
  have HB:=Lib.hid HBS.out.b.b
  clear HK1 HBS HXN
  by_cases z2:xz = 2
  ·
   subst z2
   have HE:Hid (lv16 S (en16 l) = true):=Lib.hid (by rw [HLV.out]; rfl)
   go_wp2_with fail
   go_ret
   exact ⟨by rw [HE.out]; rfl,HB.out⟩
  ·
   have hz2:(xz == 2) = false:=by simp [z2]
   have HE:Hid (lv16 S (en16 l) = (xz == 3)):=Lib.hid (by rw [HLV.out,hz2]; rfl)
   go_wp2_with fail
   go_ret
   exact ⟨by rw [HE.out]; rfl,HB.out⟩
end Go.Proofs.YtgopgbfgbddggaaGreat
