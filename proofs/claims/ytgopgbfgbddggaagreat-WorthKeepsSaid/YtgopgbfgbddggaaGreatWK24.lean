/-
  SaidWorthKeeps, part 24 of 30: what the theorem worthKeeps_holds reaches.
-/
import Derived.Test.YtgopgbfgbddggaaGreatWK23
set_option linter.all false
namespace Go.Proofs.YtgopgbfgbddggaaGreat
open Go.RowKit
set_option maxRecDepth 100000
def RetTickets17 (w:World) (S:Sv14) (e:Ending) (w':World):Prop:=∃ g,e = .returned (.slice (some ⟨g,0,none⟩) S.T.length S.T.length)∧w.heap.size≤g∧Bb13 w' g S.T.length (cntb17 S)∧Below w.heap.size w w'
theorem field17_0 (W:World) (a b:Value):(Instr.field 111 (.agg #[a,b]) 0).run Tryz.prog W = .ok a W:=by kernel_rfl
set_option maxHeartbeats 4000000 in
theorem tickets17 (v:Value) (S:Sv14) (w:World) (h:St14 w v S) (hf:Fine14 S):Calls Tryz.prog 58 #[v] w (RetTickets17 w S):=by
 obtain ⟨A0,A1,A2,A3,A4,n0,n1,n2,n3,n4,c0,c1,c2,c3,c4,sq,rfl,hs⟩:=h
 have hx0:=Bx14.new hs
 have hxn:=hx0.step (Below.refl _ _).drew
 obtain ⟨W1,hW1⟩:∃ W,w.alloc (.cells #[.slice A0 n0 c0,.slice A1 n1 c1,.slice A2 n2 c2,.slice A3 n3 c3,.slice A4 n4 c4,.int .i64 sq] 28) = W:=⟨_,rfl⟩
 rw [hW1] at hx0 hxn
 have HP:Hid (RetTickets17 w S = fun e w' => ∃ g,e = .returned (.slice (some ⟨g,0,none⟩) S.T.length S.T.length)∧w.heap.size≤g∧Bb13 w' g S.T.length (cntb17 S)∧Below w.heap.size w w'):=Lib.hid rfl
 have HX0:=Lib.hid hx0
 have x0:=hx0.x.cell 0
 have x1:=hx0.x.cell 1
 have x2:=hx0.x.cell 2
 have x3:=hx0.x.cell 3
 have x4:=hx0.x.cell 4
 have x5:=hx0.x.cell 5
 have HSM:=Lib.hid (fun W (h:Bx14 w S A0 A1 A2 A3 A4 n0 n1 n2 n3 n4 c0 c1 c2 c3 c4 sq W) => summed17 _ S W h.st hf)
 have HFL:=field17_0
 clear hs hx0 hxn hf
 go_enter Tryz.func58,Tryz.ntmps58
 go_wp2_with fail
 refine (HSM.out _ HX0.out).mono ?_
 rintro e w3 ⟨g1,g2,rfl,h1,h2,h3,h4,hb3⟩
 have HB:=Lib.hid (HX0.out.b.trans (hb3.mono HX0.out.b.size))
 have HG:Hid (w.heap.size≤g1):=Lib.hid (by have:=HX0.out.b.size; omega)
 have HR:=Lib.hid h3
 obtain ⟨m1,hm1⟩:∃ m,S.T.length = m:=⟨_,rfl⟩
 obtain ⟨m0,hm0⟩:∃ m,S.C.length = m:=⟨_,rfl⟩
 clear h1 h2 h3 h4 hb3 HX0 HSM x0 x1 x2 x3 x4 x5 hW1 hm1 hm0
 go_wp2_with fail
 go_ret
 rw [HP.out]
 exact ⟨g1,rfl,HG.out,HR.out,HB.out⟩
def RetAmounts17 (w:World) (S:Sv14) (e:Ending) (w':World):Prop:=∃ g,e = .returned (.slice (some ⟨g,0,none⟩) S.C.length S.C.length)∧w.heap.size≤g∧Ib13 w' g S.C.length (fun x => amn17 S ((x:Nat):Int))∧Below w.heap.size w w'
theorem field17_1 (W:World) (a b:Value):(Instr.field 111 (.agg #[a,b]) 1).run Tryz.prog W = .ok b W:=by kernel_rfl
set_option maxHeartbeats 4000000 in
theorem amounts17 (v:Value) (S:Sv14) (w:World) (h:St14 w v S) (hf:Fine14 S):Calls Tryz.prog 59 #[v] w (RetAmounts17 w S):=by
 obtain ⟨A0,A1,A2,A3,A4,n0,n1,n2,n3,n4,c0,c1,c2,c3,c4,sq,rfl,hs⟩:=h
 have hx0:=Bx14.new hs
 have hxn:=hx0.step (Below.refl _ _).drew
 obtain ⟨W1,hW1⟩:∃ W,w.alloc (.cells #[.slice A0 n0 c0,.slice A1 n1 c1,.slice A2 n2 c2,.slice A3 n3 c3,.slice A4 n4 c4,.int .i64 sq] 28) = W:=⟨_,rfl⟩
 rw [hW1] at hx0 hxn
 have HP:Hid (RetAmounts17 w S = fun e w' => ∃ g,e = .returned (.slice (some ⟨g,0,none⟩) S.C.length S.C.length)∧w.heap.size≤g∧Ib13 w' g S.C.length (fun x => amn17 S ((x:Nat):Int))∧Below w.heap.size w w'):=Lib.hid rfl
 have HX0:=Lib.hid hx0
 have x0:=hx0.x.cell 0
 have x1:=hx0.x.cell 1
 have x2:=hx0.x.cell 2
 have x3:=hx0.x.cell 3
 have x4:=hx0.x.cell 4
 have x5:=hx0.x.cell 5
 have HSM:=Lib.hid (fun W (h:Bx14 w S A0 A1 A2 A3 A4 n0 n1 n2 n3 n4 c0 c1 c2 c3 c4 sq W) => summed17 _ S W h.st hf)
 have HFL:=field17_1
 clear hs hx0 hxn hf
 go_enter Tryz.func59,Tryz.ntmps59
 go_wp2_with fail
 refine (HSM.out _ HX0.out).mono ?_
 rintro e w3 ⟨g1,g2,rfl,h1,h2,h3,h4,hb3⟩
 have HB:=Lib.hid (HX0.out.b.trans (hb3.mono HX0.out.b.size))
 have HG:Hid (w.heap.size≤g2):=Lib.hid (by have:=HX0.out.b.size; omega)
 have HR:=Lib.hid h4
 obtain ⟨m1,hm1⟩:∃ m,S.T.length = m:=⟨_,rfl⟩
 obtain ⟨m0,hm0⟩:∃ m,S.C.length = m:=⟨_,rfl⟩
 clear h1 h2 h3 h4 hb3 HX0 HSM x0 x1 x2 x3 x4 x5 hW1 hm1 hm0
 go_wp2_with fail
 go_ret
 rw [HP.out]
 exact ⟨g2,rfl,HG.out,HR.out,HB.out⟩
structure To18 (w:World) (B0 B1 B2 B3:Option Addr) (m0 d0 m1 d1 m2 d2 m3 d3:Nat) (m:Nat) (q:Nat→Nat × Nat) (W:World):Prop where
 b:Blk W w.heap.size 69 #[.slice B0 m0 d0,.slice B1 m1 d1,.slice B2 m2 d2,.slice B3 m3 d3]
 o:Blk W (w.heap.size + 1) 41 #[.slice none 0 0,.slice none 0 0]
 r:Qr18 W (w.heap.size + 2) m q
 z:Below w.heap.size w W
theorem To18.put {w:World} {B0 B1 B2 B3:Option Addr} {m0 d0 m1 d1 m2 d2 m3 d3 m k a b:Nat} {q:Nat→Nat × Nat} {W:World} (h:To18 w B0 B1 B2 B3 m0 d0 m1 d1 m2 d2 m3 d3 m q W) (hk:k < m) {A1 A2:Option Addr} {n1 c1 n2 c2 L1 L2:Nat} (hx:Nv W L1 (.slice A1 n1 c1) a) (hy:Nv W L2 (.slice A2 n2 c2) b) :
  To18 w B0 B1 B2 B3 m0 d0 m1 d1 m2 d2 m3 d3 m (upd q k (a,b)) (putq18 W (w.heap.size + 2) k (.slice A1 n1 c1) (.slice A2 n2 c2)) :=
 ⟨h.b.putq18 (by omega) _ _,h.o.putq18 (by omega) _ _,h.r.put hk hx hy,below_putq18 h.z (by omega) _ _⟩
set_option maxHeartbeats 4000000 in
theorem together18 (B0 B1 B2:Option Addr) (m0 d0 m1 d1 m2 d2 g4 n4:Nat) (A:Option Addr) (xs:List Nat) (m c:Nat) (q:Nat→Nat × Nat) (w:World) (hq:Qr18 w g4 n4 q) (hl:xs.length = m) (hr:Rd w w.heap.size A xs) (hx:∀ x∈xs,x < n4) (hs:∀ k,k < n4→Sm18 (q k)) (hm:m≤100) :
  Calls Tryz.prog 40 #[.agg #[.slice B0 m0 d0,.slice B1 m1 d1,.slice B2 m2 d2,.slice (some ⟨g4,0,none⟩) n4 n4],.slice A m c] w (RetQ w (((List.range m).map (fun k => q (nth xs k))).foldl addQ (0,1)).1 (((List.range m).map (fun k => q (nth xs k))).foldl addQ (0,1)).2):=by
 obtain ⟨B3,hB3⟩:∃ B,(some ⟨g4,0,none⟩:Option Addr) = B:=⟨_,rfl⟩
 have hmk:=make_ratios18 m (by omega)
 have hb1:=b1' w (.cells #[.slice B0 m0 d0,.slice B1 m1 d1,.slice B2 m2 d2,.slice B3 n4 n4] 69)
 have hk1:=Blk.new w 69 #[.slice B0 m0 d0,.slice B1 m1 d1,.slice B2 m2 d2,.slice B3 n4 n4]
 obtain ⟨W1,hW1⟩:∃ W,w.alloc (.cells #[.slice B0 m0 d0,.slice B1 m1 d1,.slice B2 m2 d2,.slice B3 n4 n4] 69) = W:=⟨_,rfl⟩
 have hz1:W1.heap.size = w.heap.size + 1:=by rw [← hW1]; simp
 rw [hW1] at hb1 hk1
 have hb2:=b1' W1 (.cells #[.slice none 0 0,.slice none 0 0] 41)
 have hk2:=Blk.new W1 41 #[.slice none 0 0,.slice none 0 0]
 obtain ⟨W2,hW2⟩:∃ W,W1.alloc (.cells #[.slice none 0 0,.slice none 0 0] 41) = W:=⟨_,rfl⟩
 have hz2:W2.heap.size = w.heap.size + 2:=by rw [← hW2]; simp; omega
 rw [hW2,hz1] at hk2
 rw [hW2] at hb2
 have hb3:=b1' W2 (.cells (madeCells #[.slice none 0 0,.slice none 0 0] (m * 2)) 41)
 have hr3:=made18 W2 m
 obtain ⟨W3,hW3⟩:∃ W,W2.alloc (.cells (madeCells #[.slice none 0 0,.slice none 0 0] (m * 2)) 41) = W:=⟨_,rfl⟩
 rw [hW3,hz2] at hr3
 rw [hW3] at hb3
 have HT0:Hid (To18 w B0 B1 B2 B3 m0 d0 m1 d1 m2 d2 n4 n4 m (fun _ => (0,0)) W3):=Lib.hid ⟨(hk1.below hb2 hk1.lt).below hb3 (hk1.below hb2 hk1.lt).lt,hk2.below hb3 hk2.lt,hr3,(hb1.trans (hb2.mono hb1.size)).trans (hb3.mono (hb1.trans (hb2.mono hb1.size)).size)⟩
 have HQ:=Lib.hid hq
 have HR:=Lib.hid hr
 have HX:=Lib.hid hx
 have HS:=Lib.hid hs
 have HL:=Lib.hid hl
 have HB3:=Lib.hid hB3
 obtain ⟨X,hX⟩:∃ X,(((List.range m).map (fun k => q (nth xs k))).foldl addQ (0,1)).1 = X:=⟨_,rfl⟩
 obtain ⟨Y,hY⟩:∃ X,(((List.range m).map (fun k => q (nth xs k))).foldl addQ (0,1)).2 = X:=⟨_,rfl⟩
 rw [hX,hY,hB3]
 have HXY:=Lib.hid (And.intro hX hY)
 clear hX hY hb1 hk1 hb2 hk2 hb3 hr3 hq hr hx hs hl hB3
 go_enter Tryz.func40,Tryz.ntmps40
 go_wp2_with fail
 clear hmk
 try rw [hz1]
 try rw [hz2]
 clear hW1 hW2 hW3 hz1 hz2
 go_loopw [13] (fun i wr => ∃ (k:Nat) (q':Nat→Nat × Nat),i = .int .i64 (k:Int)∧k≤m∧Hid (∀ j,j < k→q' j = q (nth xs j))∧Hid (To18 w B0 B1 B2 B3 m0 d0 m1 d1 m2 d2 n4 n4 m q' wr)) (fun i _ => m - (intOf i).toNat)
 case atStart => exact ⟨0,_,rfl,by omega,Lib.hid (fun j hj => by omega),HT0⟩
 case round =>
  clear HT0
  obtain ⟨k,q',rfl,hk,HM,HT⟩:=hrel
  by_cases hkm:k < m
  ·
   have i0:(0:Int)≤(k:Int):=by omega
   have i1:(k:Int) < (m:Int):=by omega
   have hkl:k < xs.length:=by have:=HL.out; omega
   obtain ⟨ga,oa,hA,hab,p0⟩:=(HR.out.below HT.out.z (Nat.le_refl _)).at_ hkl
   obtain ⟨j,hj⟩:∃ x,nth xs k = x:=⟨_,rfl⟩
   have hj4:j < n4:=HX.out j (by rw [← hj,nth_in hkl]; exact List.getElem_mem _)
   rw [hj] at p0
   have j0:(0:Int)≤(j:Int):=by omega
   have j1:(j:Int) < (n4:Int):=by omega
   have hq4:=HQ.out.step HT.out.z
   obtain ⟨C1,k1,r1,C2,k2,r2,e1,e2,v1,v2,_,_⟩:=hq4.cells hj4
   have t3:wr.cell? ⟨w.heap.size,3,none⟩ = some (.slice (some ⟨g4,0,none⟩) n4 n4):=by rw [HB3.out]; exact HT.out.b.cell 3
   obtain ⟨_,_,_,_,_,_,u1,u2,_,_,f1,f2⟩:=HT.out.r.cells hkm
   have HN:=Lib.hid (HT.out.put hkm v1 v2)
   have HMN:Hid (∀ i,i < k + 1→upd q' k ((q j).1,(q j).2) i = q (nth xs i)):=Lib.hid (fun i hi => by
    by_cases e:i = k
    · subst e; rw [upd_at,hj]
    · rw [upd_far _ _ e]; exact HM.out i (by omega))
   clear hj hq4 v1 v2 HT HM hab
   subst hA
   go_wp2_with fail
   go_roundw
   case rel => exact ⟨k + 1,_,by go_num,by omega,HMN,HN⟩
   case measure => simp [intOf]; omega
  ·
   obtain rfl:m = k:=by omega
   have i1:¬ (m:Int) < (m:Int):=by omega
   have hq5:Qr18 wr (w.heap.size + 2) m (fun j => q (nth xs j)):=HT.out.r.congr HM.out
   have hra:=hq5.rats (fun j hj => HS.out _ (HX.out _ (by rw [nth_in (by have:=HL.out; omega)]; exact List.getElem_mem _)))
   have HSU:=Lib.hid (sum18_any _ _ m m wr (by simp) hra hm)
   rw [HXY.out.1,HXY.out.2] at HSU
   have HO:=Lib.hid HT.out.o
   have HZ:=Lib.hid HT.out.z
   have hlo:=HT.out.o.lt
   clear HXY hq5 hra HM HT hk
   go_wp2_with fail
   refine HSU.out.mono ?_
   rintro e w2 ⟨A1,n1,c1,A2,n2,c2,rfl,hx,hy,hb2⟩
   have hbk2:=HO.out.below hb2 hlo
   have r0:=hbk2.cell 0
   have r1:=hbk2.cell 1
   have f0:=hbk2.frozen 0
   have f1:=hbk2.frozen 1
   have HX2:=Lib.hid hx
   have HY2:=Lib.hid hy
   have HBK2:=Lib.hid hbk2
   have HBW:=Lib.hid (HZ.out.trans (hb2.mono HZ.out.size))
   clear hx hy hb2 hbk2 HSU HO HZ
   go_wp2_with fail
   have hp:=put_q HBK2.out (.slice A1 n1 c1) (.slice A2 n2 c2)
   exact bodyPost_ret (v:=.agg #[.slice A1 n1 c1,.slice A2 n2 c2]) (by simp [results,Tryz.results40,go_sem,hp.cell 0,hp.cell 1]) rfl
    ⟨_,_,_,_,_,_,rfl,(HX2.out.put_q hlo _ _).more (by omega),(HY2.out.put_q hlo _ _).more (by omega),(HBW.out.setCell (by show w.heap.size≤w.heap.size + 1; omega) _).setCell (by show w.heap.size≤w.heap.size + 1; omega) _⟩
structure Tb18 (w:World) (B0 B1 B2 B3:Option Addr) (m0 d0 m1 d1 m2 d2 m3 d3:Nat) (xu:Bool) (xc xa:Nat) (xk xt:Int) (xo:Bool) (W:World):Prop where
 b:Blk W w.heap.size 69 #[.slice B0 m0 d0,.slice B1 m1 d1,.slice B2 m2 d2,.slice B3 m3 d3]
 t:Blk W (w.heap.size + 1) 53 #[.bool xu,.int .i64 (xc:Int),.int .i64 (xa:Int),.int .i64 xk,.int .i64 xt,.bool xo]
 z:Below w.heap.size w W
theorem Tb18.low {w:World} {B0 B1 B2 B3:Option Addr} {m0 d0 m1 d1 m2 d2 m3 d3:Nat} {xu:Bool} {xc xa:Nat} {xk xt:Int} {xo:Bool} {W W':World} (h:Tb18 w B0 B1 B2 B3 m0 d0 m1 d1 m2 d2 m3 d3 xu xc xa xk xt xo W) (hb:Below (w.heap.size + 2) W W'):Tb18 w B0 B1 B2 B3 m0 d0 m1 d1 m2 d2 m3 d3 xu xc xa xk xt xo W' :=
 ⟨h.b.below hb (by omega),h.t.below hb (by omega),h.z.trans (hb.mono (by omega))⟩
theorem Tb18.step {w:World} {B0 B1 B2 B3:Option Addr} {m0 d0 m1 d1 m2 d2 m3 d3:Nat} {xu:Bool} {xc xa:Nat} {xk xt:Int} {xo:Bool} {W W':World} (h:Tb18 w B0 B1 B2 B3 m0 d0 m1 d1 m2 d2 m3 d3 xu xc xa xk xt xo W) (hb:Below W.heap.size W W'):Tb18 w B0 B1 B2 B3 m0 d0 m1 d1 m2 d2 m3 d3 xu xc xa xk xt xo W' :=
 ⟨h.b.below hb h.b.lt,h.t.below hb h.t.lt,h.z.trans (hb.mono h.z.size)⟩
set_option maxHeartbeats 4000000 in
theorem ticket18 (B0 B3:Option Addr) (m0 d0 g2 g3 n0 m3 d3:Nat) (xu:Bool) (xc xa:Nat) (xk xt:Int) (xo:Bool) (Am:Nat→Nat) (q:Nat→Nat × Nat) (x:Rat) (w:World) (h2:Ib13 w g2 n0 Am) (h3:Qr18 w g3 n0 q) (hc:xc < n0) (ha:xa < 1073741824) (hA:Am xc < 1073741824) (hA0:0 < Am xc) (hx0:0≤x) (hx:q xc = qr18 x) (hs:Sm18 (q xc)) :
  Calls Tryz.prog 87 #[.agg #[.slice B0 m0 d0,.slice (some ⟨g2,0,none⟩) n0 n0,.slice (some ⟨g3,0,none⟩) n0 n0,.slice B3 m3 d3],.agg #[.bool xu,.int .i64 (xc:Int),.int .i64 (xa:Int),.int .i64 xk,.int .i64 xt,.bool xo]] w (RetQ w (qr18 ((xa:Rat) / (Am xc:Rat) * x)).1 (qr18 ((xa:Rat) / (Am xc:Rat) * x)).2):=by
 obtain ⟨B1,hB1⟩:∃ B,(some ⟨g2,0,none⟩:Option Addr) = B:=⟨_,rfl⟩
 obtain ⟨B2,hB2⟩:∃ B,(some ⟨g3,0,none⟩:Option Addr) = B:=⟨_,rfl⟩
 have HB1:=Lib.hid hB1.symm
 have HB2:=Lib.hid hB2.symm
 rw [hB1,hB2]
 clear hB1 hB2
 have hk1:=Blk.new w 69 #[.slice B0 m0 d0,.slice B1 n0 n0,.slice B2 n0 n0,.slice B3 m3 d3]
 have hb1:=b1' w (.cells #[.slice B0 m0 d0,.slice B1 n0 n0,.slice B2 n0 n0,.slice B3 m3 d3] 69)
 obtain ⟨W1,hW1⟩:∃ W,w.alloc (.cells #[.slice B0 m0 d0,.slice B1 n0 n0,.slice B2 n0 n0,.slice B3 m3 d3] 69) = W:=⟨_,rfl⟩
 have hz1:W1.heap.size = w.heap.size + 1:=by rw [← hW1]; simp
 rw [hW1] at hb1 hk1
 have hb2:=b1' W1 (.cells #[.bool xu,.int .i64 (xc:Int),.int .i64 (xa:Int),.int .i64 xk,.int .i64 xt,.bool xo] 53)
 have hk2:=Blk.new W1 53 #[.bool xu,.int .i64 (xc:Int),.int .i64 (xa:Int),.int .i64 xk,.int .i64 xt,.bool xo]
 obtain ⟨W2,hW2⟩:∃ W,W1.alloc (.cells #[.bool xu,.int .i64 (xc:Int),.int .i64 (xa:Int),.int .i64 xk,.int .i64 xt,.bool xo] 53) = W:=⟨_,rfl⟩
 have hz2:W2.heap.size = w.heap.size + 2:=by rw [← hW2]; simp; omega
 rw [hW2,hz1] at hk2
 rw [hW2] at hb2
 have hb3:=b1' W2 (.cells #[.slice none 0 0,.slice none 0 0] 41)
 have hk3:=Blk.new W2 41 #[.slice none 0 0,.slice none 0 0]
 obtain ⟨W3,hW3⟩:∃ W,W2.alloc (.cells #[.slice none 0 0,.slice none 0 0] 41) = W:=⟨_,rfl⟩
 rw [hW3,hz2] at hk3
 rw [hW3] at hb3
 have hz3:Below w.heap.size w W3:=(hb1.trans (hb2.mono hb1.size)).trans (hb3.mono (hb1.trans (hb2.mono hb1.size)).size)
 have HQ0:Hid (Tb18 w B0 B1 B2 B3 m0 d0 n0 n0 n0 n0 m3 d3 xu xc xa xk xt xo W3):=Lib.hid ⟨(hk1.below hb2 hk1.lt).below hb3 (hk1.below hb2 hk1.lt).lt,hk2.below hb3 hk2.lt,hz3⟩
 have HO:Hid (Blk W3.drew (w.heap.size + 2) 41 #[.slice none 0 0,.slice none 0 0]):=Lib.hid (hk3.below (Below.refl W3.heap.size W3).drew hk3.lt)
 obtain ⟨z,hz⟩:∃ z,Am xc = z:=⟨_,rfl⟩
 have a0:w.cell? ⟨g2,xc,none⟩ = some (.int .i64 (z:Int)):=by rw [← hz]; exact (h2.cells hc).1
 rw [hz] at hA hA0 ⊢
 obtain ⟨C1,k1,r1,C2,k2,r2,e1,e2,v1,v2,_,_⟩:=h3.cells hc
 have hsm:=hs
 rw [hx] at v1 v2 hsm
 have HV1:=Lib.hid (v1.nr hsm.1)
 have HV2:=Lib.hid (v2.nr hsm.2)
 have HSH:=Lib.hid (fun W => share18 xa z (by omega) (by omega) hA0 W)
 have hgd:=qr18_div (n:=xa) (d:=z) hA0
 obtain ⟨y,hy⟩:∃ y:Rat,(xa:Rat) / (z:Rat) = y:=⟨_,rfl⟩
 have hy0:0≤y:=by
  rw [← hy]
  exact rat18_div _ _ (by exact_mod_cast Nat.zero_le _) (by exact_mod_cast hA0)
 have hp1:xa / Nat.gcd xa z < 4294967296 ^ 18:=Nat.lt_of_le_of_lt (Nat.div_le_self _ _) (Nat.lt_trans (by omega:xa < 4294967296 ^ 1) (Nat.pow_lt_pow_right (by omega) (by omega)))
 have hp2:z / Nat.gcd xa z < 4294967296 ^ 18:=Nat.lt_of_le_of_lt (Nat.div_le_self _ _) (Nat.lt_trans (by omega:z < 4294967296 ^ 1) (Nat.pow_lt_pow_right (by omega) (by omega)))
 obtain ⟨s1,hs1⟩:∃ s,xa / Nat.gcd xa z = s:=⟨_,rfl⟩
 obtain ⟨s2,hs2⟩:∃ s,z / Nat.gcd xa z = s:=⟨_,rfl⟩
 rw [hy] at hgd ⊢
 rw [hs1] at hp1
 rw [hs2] at hp2
 have HE1:Hid (s1 = (qr18 y).1):=Lib.hid (by rw [← hgd,hs1])
 have HE2:Hid (s2 = (qr18 y).2):=Lib.hid (by rw [← hgd,hs2])
 have HMU:=Lib.hid (qr18_mul2 hy0 hx0)
 rw [hs1,hs2] at HSH
 obtain ⟨u1,hu1⟩:∃ u,(qr18 (y * x)).1 = u:=⟨_,rfl⟩
 obtain ⟨u2,hu2⟩:∃ u,(qr18 (y * x)).2 = u:=⟨_,rfl⟩
 have HU:=Lib.hid (And.intro hu1 hu2)
 rw [hu1,hu2]
 have HP1:=Lib.hid hp1
 have HP2:=Lib.hid hp2
 have HA0:=Lib.hid a0
 have HC1:=Lib.hid e1
 have HC2:=Lib.hid e2
 have c0:(0:Int)≤(xc:Int):=by omega
 have c1:(xc:Int) < (n0:Int):=by omega
 clear hz h2 h3 hc ha hA hA0 hx0 hx hs hk1 hb1 hb2 hk2 hb3 hk3 hz3 a0 e1 e2 v1 v2 hsm hgd hy hy0 hp1 hp2 hs1 hs2 hu1 hu2
 go_enter Tryz.func87,Tryz.ntmps87
 go_upto_region 1 with (fail)
 try rw [hz1]
 try rw [hz2]
 clear hW1 hW2 hW3 hz1 hz2
 have HXN:Hid (Tb18 w B0 B1 B2 B3 m0 d0 n0 n0 n0 n0 m3 d3 xu xc xa xk xt xo W3.drew):=Lib.hid (HQ0.out.step (Below.refl _ _).drew)
 clear HQ0
 obtain ⟨wn,hwn⟩:∃ W,W3.drew = W:=⟨_,rfl⟩
 rw [hwn] at HXN HO
 go_wp2_with fail
 refine wp_region_held_drew (S:=Tb18 w B0 B1 B2 B3 m0 d0 n0 n0 n0 n0 m3 d3 xu xc xa xk xt xo) (by kernel_rfl) (by rw [hwn]; exact HXN.out) (fun hHeld => ?_)
 rw [hwn] at hHeld ⊢
 clear hwn
 have HBS:=HXN
 refine tk 0 (v:=?_) (fun W hS => ?_) ?_
 rotate_left
 · (go_simp; try with_reducible rfl)
 try simp only [Act.put,pt1,pt2,pt3]
 refine tk 1 (v:=?_) (fun W hS => ?_) ?_
 rotate_left
 ·
  try dsimp only at hS
  have z0:=hS.t.cell 2
  go_simp
  try with_reducible rfl
 try simp only [Act.put,pt1,pt2,pt3]
 refine tk 2 (v:=?_) (fun W hS => ?_) ?_
 rotate_left
 · (go_simp; try with_reducible rfl)
 try simp only [Act.put,pt1,pt2,pt3]
 refine tk 3 (v:=?_) (fun W hS => ?_) ?_
 rotate_left
 ·
  try dsimp only at hS
  have z0:=hS.b.cell 1
  go_simp
  try with_reducible rfl
 try simp only [Act.put,pt1,pt2,pt3]
 refine tk 4 (v:=?_) (fun W hS => ?_) ?_
 rotate_left
 · (go_simp; try with_reducible rfl)
 try simp only [Act.put,pt1,pt2,pt3]
 refine tk 5 (v:=?_) (fun W hS => ?_) ?_
 rotate_left
 ·
  try dsimp only at hS
  have z0:=hS.t.cell 1
  go_simp
  try with_reducible rfl
 try simp only [Act.put,pt1,pt2,pt3]
 refine tk 6 (v:=?_) (fun W hS => ?_) ?_
 rotate_left
 ·
  try dsimp only at hS
  have z0:=HB1.out
  go_simp
  try with_reducible rfl
 try simp only [Act.put,pt1,pt2,pt3]
 refine tk 7 (v:=?_) (fun W hS => ?_) ?_
 rotate_left
 ·
  try dsimp only at hS
  have z0:=(hS.z.cell (World.block_lt_of_cell? _ _ HA0.out)).trans HA0.out
  go_simp
  try with_reducible rfl
 try simp only [Act.put,pt1,pt2,pt3]
 refine tk 9 (v:=?_) (fun W hS => ?_) ?_
 rotate_left
 · (go_simp; try with_reducible rfl)
 try simp only [Act.put,pt1,pt2,pt3]
 refine tk 10 (v:=?_) (fun W hS => ?_) ?_
 rotate_left
 ·
  try dsimp only at hS
  have z0:=hS.b.cell 2
  go_simp
  try with_reducible rfl
 try simp only [Act.put,pt1,pt2,pt3]
 refine tk 11 (v:=?_) (fun W hS => ?_) ?_
 rotate_left
 · (go_simp; try with_reducible rfl)
 try simp only [Act.put,pt1,pt2,pt3]
 refine tk 12 (v:=?_) (fun W hS => ?_) ?_
 rotate_left
 ·
  try dsimp only at hS
  have z0:=hS.t.cell 1
  go_simp
  try with_reducible rfl
 try simp only [Act.put,pt1,pt2,pt3]
 refine tk 13 (v:=?_) (fun W hS => ?_) ?_
 rotate_left
 ·
  try dsimp only at hS
  have z0:=HB2.out
  go_simp
  try with_reducible rfl
 try simp only [Act.put,pt1,pt2,pt3]
 refine tk 14 (v:=?_) (fun W hS => ?_) ?_
 rotate_left
 ·
  try dsimp only at hS
  have z0:=(hS.z.cell (World.block_lt_of_cell? _ _ HC1.out)).trans HC1.out
  have z1:=(hS.z.cell (World.block_lt_of_cell? _ _ HC2.out)).trans HC2.out
  go_simp
  try with_reducible rfl
 try simp only [Act.put,pt1,pt2,pt3]
 refine rdy 8 (fun K hK => ?_)
 have HBS0:=HBS
 go_simp
 refine (HSH.out wn).mono ?_
 rintro e wn ⟨D1,i1,t1,D2,i2,t2,rfl,hx,hy,hb⟩
 have HBS:=Lib.hid (HBS0.out.step hb)
 have HO:=Lib.hid (HO.out.below hb HO.out.lt)
 have HX:=Lib.hid hx
 have HY:=Lib.hid hy
 clear hb HBS0 hx hy
 refine hK.out _ _ HBS.out (fun hHeld => ?_)
 clear hK K
 try simp only [Act.put,pt1,pt2,pt3]
 refine rdy 15 (fun K hK => ?_)
 have HBS0:=HBS
 go_simp
 have hb:=b1' wn (.cells #[.slice D1 i1 t1,.slice D2 i2 t2,.slice C1 k1 r1,.slice C2 k2 r2] 41)
 have HK:=Lib.hid (Blk.new wn 41 #[.slice D1 i1 t1,.slice D2 i2 t2,.slice C1 k1 r1,.slice C2 k2 r2])
 have HBS:=Lib.hid (HBS0.out.step hb)
 have HO:=Lib.hid (HO.out.below hb HO.out.lt)
 have HX:=Lib.hid (HX.out.below hb)
 have HY:=Lib.hid (HY.out.below hb)
 clear hb HBS0
 obtain ⟨gk,hgk⟩:∃ k,wn.heap.size = k:=⟨_,rfl⟩
 obtain ⟨wm,hwm⟩:∃ W,wn.alloc (.cells #[.slice D1 i1 t1,.slice D2 i2 t2,.slice C1 k1 r1,.slice C2 k2 r2] 41) = W:=⟨_,rfl⟩
 rw [hwm] at HBS HO HX HY HK
 rw [hgk] at HK ⊢
 rw [hwm]
 clear hwm hgk
 obtain ⟨wn,hwn⟩:∃ W,W = wm:=⟨_,rfl⟩
 subst hwn
 refine hK.out _ _ HBS.out (fun hHeld => ?_)
 clear hK K
 try simp only [Act.put,pt1,pt2,pt3]
 refine rdy 16 (fun K hK => ?_)
 have HBS0:=HBS
 go_simp
 refine (ratioMul_wide (some ⟨gk,0,none⟩) [(s1,s2),((qr18 x).1,(qr18 x).2)] 2 2 18 wn rfl (ratsN2 HK.out (HX.out.nr HP1.out) (HY.out.nr HP2.out) (HV1.out.below (HBS0.out.z)) (HV2.out.below (HBS0.out.z))) (by omega) (by omega) (by omega)).mono ?_
 have hz:=HO.out.lt
 rw [show ([(s1,s2),((qr18 x).1,(qr18 x).2)]:List (Nat × Nat)) = [qr18 y,qr18 x] by rw [HE1.out,HE2.out],HMU.out,HU.out.1,HU.out.2]
 rintro e wn ⟨E1,j1,o1,E2,j2,o2,rfl,hx,hy,hb⟩
 have HBS:=Lib.hid (HBS0.out.step hb)
 have HO:=Lib.hid (HO.out.below hb HO.out.lt)
 have HX:=Lib.hid hx
 have HY:=Lib.hid hy
 have HZ:=Lib.hid hz
 clear hb HBS0 hx hy HK hz
 refine hK.out _ _ HBS.out (fun hHeld => ?_)
 clear hK K
 try simp only [Act.put,pt1,pt2,pt3]
 refine rdy 17 (fun K hK => ?_)
 have x0:=HO.out.cell 0
 have x1:=HO.out.cell 1
 have xf0:=HO.out.frozen 0
 have xf1:=HO.out.frozen 1
 have HBS0:=HBS
 go_simp
 obtain ⟨wm,hwm⟩:∃ W,(wn.setCell ⟨w.heap.size + 2,0,none⟩ (.slice E1 j1 o1)).setCell ⟨w.heap.size + 2,1,none⟩ (.slice E2 j2 o2) = W:=⟨_,rfl⟩
 have HBS:=Lib.hid (HBS0.out.low (W':=wm) (by rw [← hwm]; exact ((Below.refl _ _).setCell (show w.heap.size + 2≤w.heap.size + 2 from Nat.le_refl _) _).setCell (show w.heap.size + 2≤w.heap.size + 2 from Nat.le_refl _) _))
 have HX:=Lib.hid (show Nv wm _ (.slice E1 j1 o1) u1 by rw [← hwm]; exact HX.out.put_q HZ.out _ _)
 have HY:=Lib.hid (show Nv wm _ (.slice E2 j2 o2) u2 by rw [← hwm]; exact HY.out.put_q HZ.out _ _)
 have HO:=Lib.hid (show Blk wm (w.heap.size + 2) 41 #[.slice E1 j1 o1,.slice E2 j2 o2] by rw [← hwm]; exact put_q HO.out _ _)
 rw [hwm]
 clear hwm x0 x1 xf0 xf1 HBS0
 obtain ⟨wn,hwn⟩:∃ W,W = wm:=⟨_,rfl⟩
 subst hwn
 refine hK.out _ _ HBS.out (fun hHeld => ?_)
 clear hK K
 try simp only [Act.put,pt1,pt2,pt3]
 refine wpAnyH_done (by kernel_rfl) ?_ _
 clear hHeld
 have x0:=HO.out.cell 0
 have x1:=HO.out.cell 1
 go_wp2_with fail
 exact bodyPost_ret (v:=.agg #[.slice E1 j1 o1,.slice E2 j2 o2]) (by simp [results,Tryz.results87,go_sem,x0,x1]) rfl
  ⟨_,_,_,_,_,_,rfl,HX.out.more (by have:=HZ.out; omega),HY.out.more (by have:=HZ.out; omega),HBS.out.z⟩
end Go.Proofs.YtgopgbfgbddggaaGreat
