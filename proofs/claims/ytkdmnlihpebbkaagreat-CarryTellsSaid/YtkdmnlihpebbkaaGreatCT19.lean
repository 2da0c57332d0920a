import Derived.Test.YtkdmnlihpebbkaaGreatCT18
set_option linter.all false
set_option maxHeartbeats 8000000
namespace Go.Proofs.YtkdmnlihpebbkaaGreat
section
open Go.RowKit
set_option maxRecDepth 100000
theorem rdring14 (n:Nat) (hn:n<=4096) (Ad:Option Addr) (l:List (Int × Int)) (c:Nat) (b:Bool) (w:World) (hr:Aq w w.heap.size Ad l) (hm:l.length<=1000000) (hb:b = true↔Free14R n l) :
  Calls Tryz.prog 26 #[.int .i64 (n:Int),.slice Ad l.length c] w fun e w' => e = .returned (.bool (!b))/\Below w.heap.size w w':=by
 obtain ⟨os,hd⟩:=done13_ex (cut13 n l) n;have h:=rring13_any n Ad l l.length c os w rfl hr hm (by omega) hd
 rwa [show decide (os.length = n) = b by rw [Bool.eq_iff_iff,decide_eq_true_iff,hb,free14R_iff hd]] at h
theorem rfine14_0 (v:Value) (S:Sv14) (w:World) (h:St14 w v S) (ne:¬ 1<=S.q) :
  Calls Tryz.prog 7 #[v] w fun e w' => e = .returned (.bool false)/\Below w.heap.size w w':=by
 obtain ⟨A0,A1,A2,A3,A4,n0,n1,n2,n3,n4,c0,c1,c2,c3,c4,sq,rfl,hs⟩:=h;have HX:=qz (Bx14.new hs);have hl0:=hs.l0;have hl2:=hs.l2;have hl1:=hs.l1;have hm0:=hs.m0;have hm1:=hs.m1;have hm2:=hs.m2;obtain ⟨W1,hW1⟩:=exq (w.alloc (.cells #[.slice A0 n0 c0,.slice A1 n1 c1,.slice A2 n2 c2,.slice A3 n3 c3,.slice A4 n4 c4,.int .i64 sq] 28));rw [hW1] at HX
 have q0:=HX.out.x.cell 0;have q5:=HX.out.x.cell 5;have g0:sq < 1:=by rw [<- hs.e]; omega
 clear hs ne hl0 hl1 hl2 hm0 hm1 hm2;go_enter Tryz.func7,Tryz.ntmps7;go_wp2_with fail;go_ret;exact ⟨rfl,HX.out.b⟩
theorem rfine14_1 (v:Value) (S:Sv14) (w:World) (h:St14 w v S) (e0:1<=S.q) (ne:¬ S.q<=1000) :
  Calls Tryz.prog 7 #[v] w fun e w' => e = .returned (.bool false)/\Below w.heap.size w w':=by
 obtain ⟨A0,A1,A2,A3,A4,n0,n1,n2,n3,n4,c0,c1,c2,c3,c4,sq,rfl,hs⟩:=h;have HX:=qz (Bx14.new hs);have hl0:=hs.l0;have hl2:=hs.l2;have hl1:=hs.l1;have hm0:=hs.m0;have hm1:=hs.m1;have hm2:=hs.m2;obtain ⟨W1,hW1⟩:=exq (w.alloc (.cells #[.slice A0 n0 c0,.slice A1 n1 c1,.slice A2 n2 c2,.slice A3 n3 c3,.slice A4 n4 c4,.int .i64 sq] 28));rw [hW1] at HX
 have q0:=HX.out.x.cell 0;have q5:=HX.out.x.cell 5;have g0:¬ sq < 1:=by rw [<- hs.e]; omega
 have g1:1000 < sq:=by rw [<- hs.e]; omega
 clear hs e0 ne hl0 hl1 hl2 hm0 hm1 hm2;go_enter Tryz.func7,Tryz.ntmps7;go_wp2_with fail;go_ret;exact ⟨rfl,HX.out.b⟩
theorem rfine14_2 (v:Value) (S:Sv14) (w:World) (h:St14 w v S) (e0:1<=S.q) (e1:S.q<=1000) (ne:¬ 1<=S.C.length) :
  Calls Tryz.prog 7 #[v] w fun e w' => e = .returned (.bool false)/\Below w.heap.size w w':=by
 obtain ⟨A0,A1,A2,A3,A4,n0,n1,n2,n3,n4,c0,c1,c2,c3,c4,sq,rfl,hs⟩:=h;have HX:=qz (Bx14.new hs);have hl0:=hs.l0;have hl2:=hs.l2;have hl1:=hs.l1;have hm0:=hs.m0;have hm1:=hs.m1;have hm2:=hs.m2;obtain ⟨W1,hW1⟩:=exq (w.alloc (.cells #[.slice A0 n0 c0,.slice A1 n1 c1,.slice A2 n2 c2,.slice A3 n3 c3,.slice A4 n4 c4,.int .i64 sq] 28));rw [hW1] at HX
 have q0:=HX.out.x.cell 0;have q5:=HX.out.x.cell 5;have g0:¬ sq < 1:=by rw [<- hs.e]; omega
 have g1:¬ 1000 < sq:=by rw [<- hs.e]; omega
 have g2:(n0:Int) < 1:=by rw [<- hl0]; omega
 clear hs e0 e1 ne hl0 hl1 hl2 hm0 hm1 hm2;go_enter Tryz.func7,Tryz.ntmps7;go_wp2_with fail;go_ret;exact ⟨rfl,HX.out.b⟩
theorem rfine14_3 (v:Value) (S:Sv14) (w:World) (h:St14 w v S) (e0:1<=S.q) (e1:S.q<=1000) (e2:1<=S.C.length) (ne:¬ S.C.length<=16) :
  Calls Tryz.prog 7 #[v] w fun e w' => e = .returned (.bool false)/\Below w.heap.size w w':=by
 obtain ⟨A0,A1,A2,A3,A4,n0,n1,n2,n3,n4,c0,c1,c2,c3,c4,sq,rfl,hs⟩:=h;have HX:=qz (Bx14.new hs);have hl0:=hs.l0;have hl2:=hs.l2;have hl1:=hs.l1;have hm0:=hs.m0;have hm1:=hs.m1;have hm2:=hs.m2;obtain ⟨W1,hW1⟩:=exq (w.alloc (.cells #[.slice A0 n0 c0,.slice A1 n1 c1,.slice A2 n2 c2,.slice A3 n3 c3,.slice A4 n4 c4,.int .i64 sq] 28));rw [hW1] at HX
 have q0:=HX.out.x.cell 0;have q5:=HX.out.x.cell 5;have g0:¬ sq < 1:=by rw [<- hs.e]; omega
 have g1:¬ 1000 < sq:=by rw [<- hs.e]; omega
 have g2:¬ (n0:Int) < 1:=by rw [<- hl0]; omega
 have g3:16 < (n0:Int):=by rw [<- hl0]; omega
 clear hs e0 e1 e2 ne hl0 hl1 hl2 hm0 hm1 hm2;go_enter Tryz.func7,Tryz.ntmps7;go_wp2_with fail;go_ret;exact ⟨rfl,HX.out.b⟩
theorem rfine14_4 (v:Value) (S:Sv14) (w:World) (h:St14 w v S) (e0:1<=S.q) (e1:S.q<=1000) (e2:1<=S.C.length) (e3:S.C.length<=16) (ne:¬ gt14 S.C 0 = true) :
  Calls Tryz.prog 7 #[v] w fun e w' => e = .returned (.bool false)/\Below w.heap.size w w':=by
 obtain ⟨A0,A1,A2,A3,A4,n0,n1,n2,n3,n4,c0,c1,c2,c3,c4,sq,rfl,hs⟩:=h;have HX:=qz (Bx14.new hs);have hl0:=hs.l0;have hl2:=hs.l2;have hl1:=hs.l1;have hm0:=hs.m0;have hm1:=hs.m1;have hm2:=hs.m2;obtain ⟨W1,hW1⟩:=exq (w.alloc (.cells #[.slice A0 n0 c0,.slice A1 n1 c1,.slice A2 n2 c2,.slice A3 n3 c3,.slice A4 n4 c4,.int .i64 sq] 28));rw [hW1] at HX
 have q0:=HX.out.x.cell 0;have q5:=HX.out.x.cell 5;have g0:¬ sq < 1:=by rw [<- hs.e]; omega
 have g1:¬ 1000 < sq:=by rw [<- hs.e]; omega
 have g2:¬ (n0:Int) < 1:=by rw [<- hl0]; omega
 have g3:¬ 16 < (n0:Int):=by rw [<- hl0]; omega
 obtain ⟨q,hq0⟩:∃ q,n0 = q + 1:=⟨n0 - 1,by omega⟩
 obtain ⟨a,of,hA,hab,hq⟩:=Lq.at_ len14C (by omega) HX.out.s.r0 (show q < S.C.length by omega);obtain ⟨a',of',hA',hab',hq'⟩:=Lq.at_ len14C (by omega) HX.out.s.r0 (show 0 < S.C.length by omega);rw [hA] at hA';injection hA' with hA'
 injection hA' with ha2 ho2
 subst ha2 ho2;obtain ⟨x0,hx0⟩:=exq (gt14 S.C 0);obtain ⟨x1,hx1⟩:=exq (gt14 S.C q);rw [hx1] at hq;rw [hx0] at hq';have f0:W1.cell? ⟨a,of,none⟩ = some (.bool x0):=by have h:=hq' 0 _ rfl; rwa [Nat.mul_one] at h
 have f1:W1.cell? ⟨a,of + q,none⟩ = some (.bool x1):=by have h:=hq 0 _ rfl; rwa [Nat.mul_one] at h
 have hw:IntKind.i64.wrap ((n0:Int) - 1) = (q:Int):=by rw [IntKind.wrap_i64]; omega
 have i0:(0:Int)<=(q:Int):=by omega
 have i1:(q:Int) < (n0:Int):=by omega
 have i2:(0:Int) < (n0:Int):=by omega
 obtain rfl:x0 = false:=by rw [<- hx0]; simpa using ne
 clear hq hq' hx0 hx1 hab hab';clear hs e0 e1 e2 e3 ne hl0 hl1 hl2 hm0 hm1 hm2 hq0;have HA:=qz hA;subst hA;go_enter Tryz.func7,Tryz.ntmps7;go_wp2_with fail;go_ret;exact ⟨rfl,HX.out.b⟩
theorem rfine14_5 (v:Value) (S:Sv14) (w:World) (h:St14 w v S) (e0:1<=S.q) (e1:S.q<=1000) (e2:1<=S.C.length) (e3:S.C.length<=16) (e4:gt14 S.C 0 = true) (ne:¬ gt14 S.C (S.C.length - 1) = true) :
  Calls Tryz.prog 7 #[v] w fun e w' => e = .returned (.bool false)/\Below w.heap.size w w':=by
 obtain ⟨A0,A1,A2,A3,A4,n0,n1,n2,n3,n4,c0,c1,c2,c3,c4,sq,rfl,hs⟩:=h;have HX:=qz (Bx14.new hs);have hl0:=hs.l0;have hl2:=hs.l2;have hl1:=hs.l1;have hm0:=hs.m0;have hm1:=hs.m1;have hm2:=hs.m2;obtain ⟨W1,hW1⟩:=exq (w.alloc (.cells #[.slice A0 n0 c0,.slice A1 n1 c1,.slice A2 n2 c2,.slice A3 n3 c3,.slice A4 n4 c4,.int .i64 sq] 28));rw [hW1] at HX
 have q0:=HX.out.x.cell 0;have q5:=HX.out.x.cell 5;have g0:¬ sq < 1:=by rw [<- hs.e]; omega
 have g1:¬ 1000 < sq:=by rw [<- hs.e]; omega
 have g2:¬ (n0:Int) < 1:=by rw [<- hl0]; omega
 have g3:¬ 16 < (n0:Int):=by rw [<- hl0]; omega
 obtain ⟨q,hq0⟩:∃ q,n0 = q + 1:=⟨n0 - 1,by omega⟩
 obtain ⟨a,of,hA,hab,hq⟩:=Lq.at_ len14C (by omega) HX.out.s.r0 (show q < S.C.length by omega);obtain ⟨a',of',hA',hab',hq'⟩:=Lq.at_ len14C (by omega) HX.out.s.r0 (show 0 < S.C.length by omega);rw [hA] at hA';injection hA' with hA'
 injection hA' with ha2 ho2
 subst ha2 ho2;obtain ⟨x0,hx0⟩:=exq (gt14 S.C 0);obtain ⟨x1,hx1⟩:=exq (gt14 S.C q);rw [hx1] at hq;rw [hx0] at hq';have f0:W1.cell? ⟨a,of,none⟩ = some (.bool x0):=by have h:=hq' 0 _ rfl; rwa [Nat.mul_one] at h
 have f1:W1.cell? ⟨a,of + q,none⟩ = some (.bool x1):=by have h:=hq 0 _ rfl; rwa [Nat.mul_one] at h
 have hw:IntKind.i64.wrap ((n0:Int) - 1) = (q:Int):=by rw [IntKind.wrap_i64]; omega
 have i0:(0:Int)<=(q:Int):=by omega
 have i1:(q:Int) < (n0:Int):=by omega
 have i2:(0:Int) < (n0:Int):=by omega
 obtain rfl:x0 = true:=by rw [<- hx0]; simpa using e4
 obtain rfl:x1 = false:=by rw [<- hx1,show q = S.C.length - 1 by omega]; simpa using ne
 clear hq hq' hx0 hx1 hab hab';clear hs e0 e1 e2 e3 e4 ne hl0 hl1 hl2 hm0 hm1 hm2 hq0;have HA:=qz hA;subst hA;go_enter Tryz.func7,Tryz.ntmps7;go_wp2_with fail;go_ret;exact ⟨rfl,HX.out.b⟩
theorem rfine14_6 (v:Value) (S:Sv14) (w:World) (h:St14 w v S) (e0:1<=S.q) (e1:S.q<=1000) (e2:1<=S.C.length) (e3:S.C.length<=16) (e4:gt14 S.C 0 = true) (e5:gt14 S.C (S.C.length - 1) = true) (ne:¬ RTickets14 S) :
  Calls Tryz.prog 7 #[v] w fun e w' => e = .returned (.bool false)/\Below w.heap.size w w':=by
 obtain ⟨A0,A1,A2,A3,A4,n0,n1,n2,n3,n4,c0,c1,c2,c3,c4,sq,rfl,hs⟩:=h;have HX:=qz (Bx14.new hs);have hl0:=hs.l0;have hl2:=hs.l2;have hl1:=hs.l1;have hm0:=hs.m0;have hm1:=hs.m1;have hm2:=hs.m2;obtain ⟨W1,hW1⟩:=exq (w.alloc (.cells #[.slice A0 n0 c0,.slice A1 n1 c1,.slice A2 n2 c2,.slice A3 n3 c3,.slice A4 n4 c4,.int .i64 sq] 28));rw [hW1] at HX
 have q0:=HX.out.x.cell 0;have q5:=HX.out.x.cell 5;have g0:¬ sq < 1:=by rw [<- hs.e]; omega
 have g1:¬ 1000 < sq:=by rw [<- hs.e]; omega
 have g2:¬ (n0:Int) < 1:=by rw [<- hl0]; omega
 have g3:¬ 16 < (n0:Int):=by rw [<- hl0]; omega
 obtain ⟨q,hq0⟩:∃ q,n0 = q + 1:=⟨n0 - 1,by omega⟩
 obtain ⟨a,of,hA,hab,hq⟩:=Lq.at_ len14C (by omega) HX.out.s.r0 (show q < S.C.length by omega);obtain ⟨a',of',hA',hab',hq'⟩:=Lq.at_ len14C (by omega) HX.out.s.r0 (show 0 < S.C.length by omega);rw [hA] at hA';injection hA' with hA'
 injection hA' with ha2 ho2
 subst ha2 ho2;obtain ⟨x0,hx0⟩:=exq (gt14 S.C 0);obtain ⟨x1,hx1⟩:=exq (gt14 S.C q);rw [hx1] at hq;rw [hx0] at hq';have f0:W1.cell? ⟨a,of,none⟩ = some (.bool x0):=by have h:=hq' 0 _ rfl; rwa [Nat.mul_one] at h
 have f1:W1.cell? ⟨a,of + q,none⟩ = some (.bool x1):=by have h:=hq 0 _ rfl; rwa [Nat.mul_one] at h
 have hw:IntKind.i64.wrap ((n0:Int) - 1) = (q:Int):=by rw [IntKind.wrap_i64]; omega
 have i0:(0:Int)<=(q:Int):=by omega
 have i1:(q:Int) < (n0:Int):=by omega
 have i2:(0:Int) < (n0:Int):=by omega
 obtain rfl:x0 = true:=by rw [<- hx0]; simpa using e4
 obtain rfl:x1 = true:=by rw [<- hx1,show q = S.C.length - 1 by omega]; simpa using e5
 clear hq hq' hx0 hx1 hab hab';have HC6:=qz (fun W (h:Bx14 w S A0 A1 A2 A3 A4 n0 n1 n2 n3 n4 c0 c1 c2 c3 c4 sq W) => rtickets14 _ S false W h.st (by simp [ne]));clear hs e0 e1 e2 e3 e4 e5 ne hl0 hl1 hl2 hm0 hm1 hm2 hq0;have HA:=qz hA;subst hA;go_enter Tryz.func7,Tryz.ntmps7;obtain ⟨c6_0,c6_1,c6_2,c6_3,c6_4,c6_5⟩:=ce6 HX.out.x;go_wp2_with fail
 refine (HC6.out _ HX.out).mono ?_;rintro e w6 ⟨rfl,hb6⟩;have HX6:=qz (HX.out.step hb6);clear HC6 hb6;go_wp2_with fail;go_ret;exact ⟨rfl,HX6.out.b⟩
theorem rfine14_7 (v:Value) (S:Sv14) (w:World) (h:St14 w v S) (e0:1<=S.q) (e1:S.q<=1000) (e2:1<=S.C.length) (e3:S.C.length<=16) (e4:gt14 S.C 0 = true) (e5:gt14 S.C (S.C.length - 1) = true) (e6:RTickets14 S) (ne:¬ RThreads14 S) :
  Calls Tryz.prog 7 #[v] w fun e w' => e = .returned (.bool false)/\Below w.heap.size w w':=by
 obtain ⟨A0,A1,A2,A3,A4,n0,n1,n2,n3,n4,c0,c1,c2,c3,c4,sq,rfl,hs⟩:=h;have HX:=qz (Bx14.new hs);have hl0:=hs.l0;have hl2:=hs.l2;have hl1:=hs.l1;have hm0:=hs.m0;have hm1:=hs.m1;have hm2:=hs.m2;obtain ⟨W1,hW1⟩:=exq (w.alloc (.cells #[.slice A0 n0 c0,.slice A1 n1 c1,.slice A2 n2 c2,.slice A3 n3 c3,.slice A4 n4 c4,.int .i64 sq] 28));rw [hW1] at HX
 have q0:=HX.out.x.cell 0;have q5:=HX.out.x.cell 5;have g0:¬ sq < 1:=by rw [<- hs.e]; omega
 have g1:¬ 1000 < sq:=by rw [<- hs.e]; omega
 have g2:¬ (n0:Int) < 1:=by rw [<- hl0]; omega
 have g3:¬ 16 < (n0:Int):=by rw [<- hl0]; omega
 obtain ⟨q,hq0⟩:∃ q,n0 = q + 1:=⟨n0 - 1,by omega⟩
 obtain ⟨a,of,hA,hab,hq⟩:=Lq.at_ len14C (by omega) HX.out.s.r0 (show q < S.C.length by omega);obtain ⟨a',of',hA',hab',hq'⟩:=Lq.at_ len14C (by omega) HX.out.s.r0 (show 0 < S.C.length by omega);rw [hA] at hA';injection hA' with hA'
 injection hA' with ha2 ho2
 subst ha2 ho2;obtain ⟨x0,hx0⟩:=exq (gt14 S.C 0);obtain ⟨x1,hx1⟩:=exq (gt14 S.C q);rw [hx1] at hq;rw [hx0] at hq';have f0:W1.cell? ⟨a,of,none⟩ = some (.bool x0):=by have h:=hq' 0 _ rfl; rwa [Nat.mul_one] at h
 have f1:W1.cell? ⟨a,of + q,none⟩ = some (.bool x1):=by have h:=hq 0 _ rfl; rwa [Nat.mul_one] at h
 have hw:IntKind.i64.wrap ((n0:Int) - 1) = (q:Int):=by rw [IntKind.wrap_i64]; omega
 have i0:(0:Int)<=(q:Int):=by omega
 have i1:(q:Int) < (n0:Int):=by omega
 have i2:(0:Int) < (n0:Int):=by omega
 obtain rfl:x0 = true:=by rw [<- hx0]; simpa using e4
 obtain rfl:x1 = true:=by rw [<- hx1,show q = S.C.length - 1 by omega]; simpa using e5
 clear hq hq' hx0 hx1 hab hab';have HC6:=qz (fun W (h:Bx14 w S A0 A1 A2 A3 A4 n0 n1 n2 n3 n4 c0 c1 c2 c3 c4 sq W) => rtickets14 _ S true W h.st (by simp [e6]));have HC7:=qz (fun W (h:Bx14 w S A0 A1 A2 A3 A4 n0 n1 n2 n3 n4 c0 c1 c2 c3 c4 sq W) => rthreads14 _ S false W h.st (by simp [ne]));clear hs e0 e1 e2 e3 e4 e5 e6 ne hl0 hl1 hl2 hm0 hm1 hm2 hq0
 have HA:=qz hA;subst hA;go_enter Tryz.func7,Tryz.ntmps7;obtain ⟨c6_0,c6_1,c6_2,c6_3,c6_4,c6_5⟩:=ce6 HX.out.x;go_wp2_with fail;refine (HC6.out _ HX.out).mono ?_;rintro e w6 ⟨rfl,hb6⟩;have HX6:=qz (HX.out.step hb6);clear HC6 hb6;obtain ⟨c7_0,c7_1,c7_2,c7_3,c7_4,c7_5⟩:=ce6 HX6.out.x;go_wp2_with fail;refine (HC7.out _ HX6.out).mono ?_;rintro e w7 ⟨rfl,hb7⟩
 have HX7:=qz (HX6.out.step hb7);clear HC7 hb7;go_wp2_with fail;go_ret;exact ⟨rfl,HX7.out.b⟩
theorem rfine14_8 (v:Value) (S:Sv14) (w:World) (h:St14 w v S) (e0:1<=S.q) (e1:S.q<=1000) (e2:1<=S.C.length) (e3:S.C.length<=16) (e4:gt14 S.C 0 = true) (e5:gt14 S.C (S.C.length - 1) = true) (e6:RTickets14 S) (e7:RThreads14 S) (ne:¬ RLocks14 S) :
  Calls Tryz.prog 7 #[v] w fun e w' => e = .returned (.bool false)/\Below w.heap.size w w':=by
 obtain ⟨A0,A1,A2,A3,A4,n0,n1,n2,n3,n4,c0,c1,c2,c3,c4,sq,rfl,hs⟩:=h;have HX:=qz (Bx14.new hs);have hl0:=hs.l0;have hl2:=hs.l2;have hl1:=hs.l1;have hm0:=hs.m0;have hm1:=hs.m1;have hm2:=hs.m2;obtain ⟨W1,hW1⟩:=exq (w.alloc (.cells #[.slice A0 n0 c0,.slice A1 n1 c1,.slice A2 n2 c2,.slice A3 n3 c3,.slice A4 n4 c4,.int .i64 sq] 28));rw [hW1] at HX
 have q0:=HX.out.x.cell 0;have q5:=HX.out.x.cell 5;have g0:¬ sq < 1:=by rw [<- hs.e]; omega
 have g1:¬ 1000 < sq:=by rw [<- hs.e]; omega
 have g2:¬ (n0:Int) < 1:=by rw [<- hl0]; omega
 have g3:¬ 16 < (n0:Int):=by rw [<- hl0]; omega
 obtain ⟨q,hq0⟩:∃ q,n0 = q + 1:=⟨n0 - 1,by omega⟩
 obtain ⟨a,of,hA,hab,hq⟩:=Lq.at_ len14C (by omega) HX.out.s.r0 (show q < S.C.length by omega);obtain ⟨a',of',hA',hab',hq'⟩:=Lq.at_ len14C (by omega) HX.out.s.r0 (show 0 < S.C.length by omega);rw [hA] at hA';injection hA' with hA'
 injection hA' with ha2 ho2
 subst ha2 ho2;obtain ⟨x0,hx0⟩:=exq (gt14 S.C 0);obtain ⟨x1,hx1⟩:=exq (gt14 S.C q);rw [hx1] at hq;rw [hx0] at hq';have f0:W1.cell? ⟨a,of,none⟩ = some (.bool x0):=by have h:=hq' 0 _ rfl; rwa [Nat.mul_one] at h
 have f1:W1.cell? ⟨a,of + q,none⟩ = some (.bool x1):=by have h:=hq 0 _ rfl; rwa [Nat.mul_one] at h
 have hw:IntKind.i64.wrap ((n0:Int) - 1) = (q:Int):=by rw [IntKind.wrap_i64]; omega
 have i0:(0:Int)<=(q:Int):=by omega
 have i1:(q:Int) < (n0:Int):=by omega
 have i2:(0:Int) < (n0:Int):=by omega
 obtain rfl:x0 = true:=by rw [<- hx0]; simpa using e4
 obtain rfl:x1 = true:=by rw [<- hx1,show q = S.C.length - 1 by omega]; simpa using e5
 clear hq hq' hx0 hx1 hab hab';have HC6:=qz (fun W (h:Bx14 w S A0 A1 A2 A3 A4 n0 n1 n2 n3 n4 c0 c1 c2 c3 c4 sq W) => rtickets14 _ S true W h.st (by simp [e6]));have HC7:=qz (fun W (h:Bx14 w S A0 A1 A2 A3 A4 n0 n1 n2 n3 n4 c0 c1 c2 c3 c4 sq W) => rthreads14 _ S true W h.st (by simp [e7]))
 have HC8:=qz (fun W (h:Bx14 w S A0 A1 A2 A3 A4 n0 n1 n2 n3 n4 c0 c1 c2 c3 c4 sq W) => rlocks14 _ S false W h.st (by simp [ne]));clear hs e0 e1 e2 e3 e4 e5 e6 e7 ne hl0 hl1 hl2 hm0 hm1 hm2 hq0;have HA:=qz hA;subst hA;go_enter Tryz.func7,Tryz.ntmps7;obtain ⟨c6_0,c6_1,c6_2,c6_3,c6_4,c6_5⟩:=ce6 HX.out.x;go_wp2_with fail;refine (HC6.out _ HX.out).mono ?_
 rintro e w6 ⟨rfl,hb6⟩;have HX6:=qz (HX.out.step hb6);clear HC6 hb6;obtain ⟨c7_0,c7_1,c7_2,c7_3,c7_4,c7_5⟩:=ce6 HX6.out.x;go_wp2_with fail;refine (HC7.out _ HX6.out).mono ?_;rintro e w7 ⟨rfl,hb7⟩;have HX7:=qz (HX6.out.step hb7);clear HC7 hb7;obtain ⟨c8_0,c8_1,c8_2,c8_3,c8_4,c8_5⟩:=ce6 HX7.out.x;go_wp2_with fail;refine (HC8.out _ HX7.out).mono ?_
 rintro e w8 ⟨rfl,hb8⟩;have HX8:=qz (HX7.out.step hb8);clear HC8 hb8;go_wp2_with fail;go_ret;exact ⟨rfl,HX8.out.b⟩
theorem rfine14_9 (v:Value) (S:Sv14) (w:World) (h:St14 w v S) (e0:1<=S.q) (e1:S.q<=1000) (e2:1<=S.C.length) (e3:S.C.length<=16) (e4:gt14 S.C 0 = true) (e5:gt14 S.C (S.C.length - 1) = true) (e6:RTickets14 S) (e7:RThreads14 S) (e8:RLocks14 S) (ne:¬ Queue14 S) :
  Calls Tryz.prog 7 #[v] w fun e w' => e = .returned (.bool false)/\Below w.heap.size w w':=by
 obtain ⟨A0,A1,A2,A3,A4,n0,n1,n2,n3,n4,c0,c1,c2,c3,c4,sq,rfl,hs⟩:=h;have HX:=qz (Bx14.new hs);have hl0:=hs.l0;have hl2:=hs.l2;have hl1:=hs.l1;have hm0:=hs.m0;have hm1:=hs.m1;have hm2:=hs.m2;obtain ⟨W1,hW1⟩:=exq (w.alloc (.cells #[.slice A0 n0 c0,.slice A1 n1 c1,.slice A2 n2 c2,.slice A3 n3 c3,.slice A4 n4 c4,.int .i64 sq] 28));rw [hW1] at HX
 have q0:=HX.out.x.cell 0;have q5:=HX.out.x.cell 5;have g0:¬ sq < 1:=by rw [<- hs.e]; omega
 have g1:¬ 1000 < sq:=by rw [<- hs.e]; omega
 have g2:¬ (n0:Int) < 1:=by rw [<- hl0]; omega
 have g3:¬ 16 < (n0:Int):=by rw [<- hl0]; omega
 obtain ⟨q,hq0⟩:∃ q,n0 = q + 1:=⟨n0 - 1,by omega⟩
 obtain ⟨a,of,hA,hab,hq⟩:=Lq.at_ len14C (by omega) HX.out.s.r0 (show q < S.C.length by omega);obtain ⟨a',of',hA',hab',hq'⟩:=Lq.at_ len14C (by omega) HX.out.s.r0 (show 0 < S.C.length by omega);rw [hA] at hA';injection hA' with hA'
 injection hA' with ha2 ho2
 subst ha2 ho2;obtain ⟨x0,hx0⟩:=exq (gt14 S.C 0);obtain ⟨x1,hx1⟩:=exq (gt14 S.C q);rw [hx1] at hq;rw [hx0] at hq';have f0:W1.cell? ⟨a,of,none⟩ = some (.bool x0):=by have h:=hq' 0 _ rfl; rwa [Nat.mul_one] at h
 have f1:W1.cell? ⟨a,of + q,none⟩ = some (.bool x1):=by have h:=hq 0 _ rfl; rwa [Nat.mul_one] at h
 have hw:IntKind.i64.wrap ((n0:Int) - 1) = (q:Int):=by rw [IntKind.wrap_i64]; omega
 have i0:(0:Int)<=(q:Int):=by omega
 have i1:(q:Int) < (n0:Int):=by omega
 have i2:(0:Int) < (n0:Int):=by omega
 obtain rfl:x0 = true:=by rw [<- hx0]; simpa using e4
 obtain rfl:x1 = true:=by rw [<- hx1,show q = S.C.length - 1 by omega]; simpa using e5
 clear hq hq' hx0 hx1 hab hab';have HC6:=qz (fun W (h:Bx14 w S A0 A1 A2 A3 A4 n0 n1 n2 n3 n4 c0 c1 c2 c3 c4 sq W) => rtickets14 _ S true W h.st (by simp [e6]));have HC7:=qz (fun W (h:Bx14 w S A0 A1 A2 A3 A4 n0 n1 n2 n3 n4 c0 c1 c2 c3 c4 sq W) => rthreads14 _ S true W h.st (by simp [e7]))
 have HC8:=qz (fun W (h:Bx14 w S A0 A1 A2 A3 A4 n0 n1 n2 n3 n4 c0 c1 c2 c3 c4 sq W) => rlocks14 _ S true W h.st (by simp [e8]))
 have hok4:∀ j,j < S.H.length->(gt14 S.H j).s = 4->us14 usH S.H (gt14 S.H j).f = true:=fun j hj h4 => by
  have h5:=(e7.2.1 j hj (by obtain ⟨x,hx⟩:∃ x,gt14 S.H j = x:=⟨_,rfl⟩; rw [hx] at h4 ⊢; simp [usH,h4])).1;rcases h5 with h5 | h5 | h5
  · exact h5.2.1
  · rw [h4] at h5; exact absurd h5.1 (by decide)
  · rw [h4] at h5; exact absurd h5.1 (by decide)
 have HC9:=qz (fun W (h:Bx14 w S A0 A1 A2 A3 A4 n0 n1 n2 n3 n4 c0 c1 c2 c3 c4 sq W) => rqueue14 _ S false W h.st e7.1.1 hok4 (by simp [ne]));clear hs e0 e1 e2 e3 e4 e5 e6 e7 e8 ne hok4 hl0 hl1 hl2 hm0 hm1 hm2 hq0;have HA:=qz hA;subst hA;go_enter Tryz.func7,Tryz.ntmps7;obtain ⟨c6_0,c6_1,c6_2,c6_3,c6_4,c6_5⟩:=ce6 HX.out.x;go_wp2_with fail
 refine (HC6.out _ HX.out).mono ?_;rintro e w6 ⟨rfl,hb6⟩;have HX6:=qz (HX.out.step hb6);clear HC6 hb6;obtain ⟨c7_0,c7_1,c7_2,c7_3,c7_4,c7_5⟩:=ce6 HX6.out.x;go_wp2_with fail;refine (HC7.out _ HX6.out).mono ?_;rintro e w7 ⟨rfl,hb7⟩;have HX7:=qz (HX6.out.step hb7);clear HC7 hb7;obtain ⟨c8_0,c8_1,c8_2,c8_3,c8_4,c8_5⟩:=ce6 HX7.out.x;go_wp2_with fail
 refine (HC8.out _ HX7.out).mono ?_;rintro e w8 ⟨rfl,hb8⟩;have HX8:=qz (HX7.out.step hb8);clear HC8 hb8;obtain ⟨c9_0,c9_1,c9_2,c9_3,c9_4,c9_5⟩:=ce6 HX8.out.x;go_wp2_with fail;refine (HC9.out _ HX8.out).mono ?_;rintro e w9 ⟨rfl,hb9⟩;have HX9:=qz (HX8.out.step hb9);clear HC9 hb9;go_wp2_with fail;go_ret;exact ⟨rfl,HX9.out.b⟩
theorem rfine14_10 (v:Value) (S:Sv14) (w:World) (h:St14 w v S) (e0:1<=S.q) (e1:S.q<=1000) (e2:1<=S.C.length) (e3:S.C.length<=16) (e4:gt14 S.C 0 = true) (e5:gt14 S.C (S.C.length - 1) = true) (e6:RTickets14 S) (e7:RThreads14 S) (e8:RLocks14 S) (e9:Queue14 S) (ne:¬ Free14R S.C.length (cArr14 S S.T.length)) :
  Calls Tryz.prog 7 #[v] w fun e w' => e = .returned (.bool false)/\Below w.heap.size w w':=by
 obtain ⟨A0,A1,A2,A3,A4,n0,n1,n2,n3,n4,c0,c1,c2,c3,c4,sq,rfl,hs⟩:=h;have HX:=qz (Bx14.new hs);have hl0:=hs.l0;have hl2:=hs.l2;have hl1:=hs.l1;have hm0:=hs.m0;have hm1:=hs.m1;have hm2:=hs.m2;obtain ⟨W1,hW1⟩:=exq (w.alloc (.cells #[.slice A0 n0 c0,.slice A1 n1 c1,.slice A2 n2 c2,.slice A3 n3 c3,.slice A4 n4 c4,.int .i64 sq] 28));rw [hW1] at HX
 have q0:=HX.out.x.cell 0;have q5:=HX.out.x.cell 5;have g0:¬ sq < 1:=by rw [<- hs.e]; omega
 have g1:¬ 1000 < sq:=by rw [<- hs.e]; omega
 have g2:¬ (n0:Int) < 1:=by rw [<- hl0]; omega
 have g3:¬ 16 < (n0:Int):=by rw [<- hl0]; omega
 obtain ⟨q,hq0⟩:∃ q,n0 = q + 1:=⟨n0 - 1,by omega⟩
 obtain ⟨a,of,hA,hab,hq⟩:=Lq.at_ len14C (by omega) HX.out.s.r0 (show q < S.C.length by omega);obtain ⟨a',of',hA',hab',hq'⟩:=Lq.at_ len14C (by omega) HX.out.s.r0 (show 0 < S.C.length by omega);rw [hA] at hA';injection hA' with hA'
 injection hA' with ha2 ho2
 subst ha2 ho2;obtain ⟨x0,hx0⟩:=exq (gt14 S.C 0);obtain ⟨x1,hx1⟩:=exq (gt14 S.C q);rw [hx1] at hq;rw [hx0] at hq';have f0:W1.cell? ⟨a,of,none⟩ = some (.bool x0):=by have h:=hq' 0 _ rfl; rwa [Nat.mul_one] at h
 have f1:W1.cell? ⟨a,of + q,none⟩ = some (.bool x1):=by have h:=hq 0 _ rfl; rwa [Nat.mul_one] at h
 have hw:IntKind.i64.wrap ((n0:Int) - 1) = (q:Int):=by rw [IntKind.wrap_i64]; omega
 have i0:(0:Int)<=(q:Int):=by omega
 have i1:(q:Int) < (n0:Int):=by omega
 have i2:(0:Int) < (n0:Int):=by omega
 obtain rfl:x0 = true:=by rw [<- hx0]; simpa using e4
 obtain rfl:x1 = true:=by rw [<- hx1,show q = S.C.length - 1 by omega]; simpa using e5
 clear hq hq' hx0 hx1 hab hab';have HC6:=qz (fun W (h:Bx14 w S A0 A1 A2 A3 A4 n0 n1 n2 n3 n4 c0 c1 c2 c3 c4 sq W) => rtickets14 _ S true W h.st (by simp [e6]));have HC7:=qz (fun W (h:Bx14 w S A0 A1 A2 A3 A4 n0 n1 n2 n3 n4 c0 c1 c2 c3 c4 sq W) => rthreads14 _ S true W h.st (by simp [e7]))
 have HC8:=qz (fun W (h:Bx14 w S A0 A1 A2 A3 A4 n0 n1 n2 n3 n4 c0 c1 c2 c3 c4 sq W) => rlocks14 _ S true W h.st (by simp [e8]))
 have hok4:∀ j,j < S.H.length->(gt14 S.H j).s = 4->us14 usH S.H (gt14 S.H j).f = true:=fun j hj h4 => by
  have h5:=(e7.2.1 j hj (by obtain ⟨x,hx⟩:∃ x,gt14 S.H j = x:=⟨_,rfl⟩; rw [hx] at h4 ⊢; simp [usH,h4])).1;rcases h5 with h5 | h5 | h5
  · exact h5.2.1
  · rw [h4] at h5; exact absurd h5.1 (by decide)
  · rw [h4] at h5; exact absurd h5.1 (by decide)
 have HC9:=qz (fun W (h:Bx14 w S A0 A1 A2 A3 A4 n0 n1 n2 n3 n4 c0 c1 c2 c3 c4 sq W) => rqueue14 _ S true W h.st e7.1.1 hok4 (by simp [e9]));have HCA:=qz (fun W (h:Bx14 w S A0 A1 A2 A3 A4 n0 n1 n2 n3 n4 c0 c1 c2 c3 c4 sq W) => rcoinArrows14 _ S W h.st);have HLA:Hid ((cArr14 S S.T.length).length<=1000000):=qz (by have:=cArr14_len S S.T.length; omega)
 have HRA:=qz (fun W Ad c (hr:Aq W W.heap.size Ad (cArr14 S S.T.length)) => rdring14 n0 (by omega) Ad _ c false W hr HLA.out (by rw [<- hl0]; simp [ne]));clear hs e0 e1 e2 e3 e4 e5 e6 e7 e8 e9 ne hok4 hl0 hl1 hl2 hm0 hm1 hm2 hq0;have HA:=qz hA;subst hA;go_enter Tryz.func7,Tryz.ntmps7;obtain ⟨c6_0,c6_1,c6_2,c6_3,c6_4,c6_5⟩:=ce6 HX.out.x;go_wp2_with fail
 refine (HC6.out _ HX.out).mono ?_;rintro e w6 ⟨rfl,hb6⟩;have HX6:=qz (HX.out.step hb6);clear HC6 hb6;obtain ⟨c7_0,c7_1,c7_2,c7_3,c7_4,c7_5⟩:=ce6 HX6.out.x;go_wp2_with fail;refine (HC7.out _ HX6.out).mono ?_;rintro e w7 ⟨rfl,hb7⟩;have HX7:=qz (HX6.out.step hb7);clear HC7 hb7;obtain ⟨c8_0,c8_1,c8_2,c8_3,c8_4,c8_5⟩:=ce6 HX7.out.x;go_wp2_with fail
 refine (HC8.out _ HX7.out).mono ?_;rintro e w8 ⟨rfl,hb8⟩;have HX8:=qz (HX7.out.step hb8);clear HC8 hb8;obtain ⟨c9_0,c9_1,c9_2,c9_3,c9_4,c9_5⟩:=ce6 HX8.out.x;go_wp2_with fail;refine (HC9.out _ HX8.out).mono ?_;rintro e w9 ⟨rfl,hb9⟩;have HX9:=qz (HX8.out.step hb9);clear HC9 hb9;have HXN:=qz (HX9.out.step (Below.refl _ _).drew);obtain ⟨wn,hwn⟩:=exq w9.drew
 rw [hwn] at HXN;go_wp2_with fail;refine wp_region_held_drew (S:=Bx14 w S (some ⟨a,of,none⟩) A1 A2 A3 A4 n0 n1 n2 n3 n4 c0 c1 c2 c3 c4 sq) (by kernel_rfl) (by rw [hwn]; exact HXN.out) (fun hHeld => ?_);rw [hwn] at hHeld ⊢;clear hwn;have HBS:=HXN;refine tkq 0 ?_;refine tk 1 (v:=?_) (fun W hS => ?_) ?_;rotate_left
 ·
  try try dsimp only at hS
  obtain ⟨z0,z1,z2,z3,z4,z5⟩:=ce6 hS.x;go_simp
  try with_reducible rfl
 try simp only [Act.put,pt1,pt2,pt3]
 refine rdy 2 (fun K hK => ?_);have HBS0:=HBS;go_simp;refine (HCA.out _ HBS0.out).mono ?_;rintro e wn ⟨Ac,cc,rfl,hqa,hb⟩;have HBS:=qz (HBS0.out.step hb);have HQA:=qz hqa;clear hb hqa HBS0;refine koq hK HBS.out (fun hHeld=>?_);clear hK K;refine rdy 3 (fun K hK => ?_);have HBS0:=HBS;go_simp;refine (HRA.out _ Ac cc HQA.out).mono ?_;rintro e wn ⟨rfl,hb⟩
 have HBS:=qz (HBS0.out.step hb);clear hb HBS0 HQA;refine koq hK HBS.out (fun hHeld=>?_);clear hK K;refine tkq 4 ?_;refine tkq 5 ?_;refine sk 6 ?_
 try simp only [Act.put,pt1,pt2,pt3]
 refine sk 7 ?_
 try simp only [Act.put,pt1,pt2,pt3]
 refine sk 8 ?_
 try simp only [Act.put,pt1,pt2,pt3]
 refine sk 9 ?_
 try simp only [Act.put,pt1,pt2,pt3]
 refine sk 10 ?_
 try simp only [Act.put,pt1,pt2,pt3]
 refine sk 11 ?_
 try simp only [Act.put,pt1,pt2,pt3]
 refine sk 12 ?_
 try simp only [Act.put,pt1,pt2,pt3]
 refine tkq 13 ?_;refine rdy 14 (fun K hK => ?_);go_simp;refine koq hK HBS.out (fun hHeld=>?_);clear hK K;refine wpAnyH_done (by kernel_rfl) ?_ _;clear hHeld;go_wp2_with fail;go_ret;exact ⟨rfl,HBS.out.b⟩
theorem rfine14_11 (v:Value) (S:Sv14) (w:World) (h:St14 w v S) (e0:1<=S.q) (e1:S.q<=1000) (e2:1<=S.C.length) (e3:S.C.length<=16) (e4:gt14 S.C 0 = true) (e5:gt14 S.C (S.C.length - 1) = true) (e6:RTickets14 S) (e7:RThreads14 S) (e8:RLocks14 S) (e9:Queue14 S) (e10:Free14R S.C.length (cArr14 S S.T.length)) (b:Bool) (hb:b = true↔Free14R S.H.length (tArr14 S S.H.length)) :
  Calls Tryz.prog 7 #[v] w fun e w' => e = .returned (.bool b)/\Below w.heap.size w w':=by
 obtain ⟨A0,A1,A2,A3,A4,n0,n1,n2,n3,n4,c0,c1,c2,c3,c4,sq,rfl,hs⟩:=h;have HX:=qz (Bx14.new hs);have hl0:=hs.l0;have hl2:=hs.l2;have hl1:=hs.l1;have hm0:=hs.m0;have hm1:=hs.m1;have hm2:=hs.m2;obtain ⟨W1,hW1⟩:=exq (w.alloc (.cells #[.slice A0 n0 c0,.slice A1 n1 c1,.slice A2 n2 c2,.slice A3 n3 c3,.slice A4 n4 c4,.int .i64 sq] 28));rw [hW1] at HX
 have q0:=HX.out.x.cell 0;have q5:=HX.out.x.cell 5;have g0:¬ sq < 1:=by rw [<- hs.e]; omega
 have g1:¬ 1000 < sq:=by rw [<- hs.e]; omega
 have g2:¬ (n0:Int) < 1:=by rw [<- hl0]; omega
 have g3:¬ 16 < (n0:Int):=by rw [<- hl0]; omega
 obtain ⟨q,hq0⟩:∃ q,n0 = q + 1:=⟨n0 - 1,by omega⟩
 obtain ⟨a,of,hA,hab,hq⟩:=Lq.at_ len14C (by omega) HX.out.s.r0 (show q < S.C.length by omega);obtain ⟨a',of',hA',hab',hq'⟩:=Lq.at_ len14C (by omega) HX.out.s.r0 (show 0 < S.C.length by omega);rw [hA] at hA';injection hA' with hA'
 injection hA' with ha2 ho2
 subst ha2 ho2;obtain ⟨x0,hx0⟩:=exq (gt14 S.C 0);obtain ⟨x1,hx1⟩:=exq (gt14 S.C q);rw [hx1] at hq;rw [hx0] at hq';have f0:W1.cell? ⟨a,of,none⟩ = some (.bool x0):=by have h:=hq' 0 _ rfl; rwa [Nat.mul_one] at h
 have f1:W1.cell? ⟨a,of + q,none⟩ = some (.bool x1):=by have h:=hq 0 _ rfl; rwa [Nat.mul_one] at h
 have hw:IntKind.i64.wrap ((n0:Int) - 1) = (q:Int):=by rw [IntKind.wrap_i64]; omega
 have i0:(0:Int)<=(q:Int):=by omega
 have i1:(q:Int) < (n0:Int):=by omega
 have i2:(0:Int) < (n0:Int):=by omega
 obtain rfl:x0 = true:=by rw [<- hx0]; simpa using e4
 obtain rfl:x1 = true:=by rw [<- hx1,show q = S.C.length - 1 by omega]; simpa using e5
 clear hq hq' hx0 hx1 hab hab';have HC6:=qz (fun W (h:Bx14 w S A0 A1 A2 A3 A4 n0 n1 n2 n3 n4 c0 c1 c2 c3 c4 sq W) => rtickets14 _ S true W h.st (by simp [e6]));have HC7:=qz (fun W (h:Bx14 w S A0 A1 A2 A3 A4 n0 n1 n2 n3 n4 c0 c1 c2 c3 c4 sq W) => rthreads14 _ S true W h.st (by simp [e7]))
 have HC8:=qz (fun W (h:Bx14 w S A0 A1 A2 A3 A4 n0 n1 n2 n3 n4 c0 c1 c2 c3 c4 sq W) => rlocks14 _ S true W h.st (by simp [e8]))
 have hok4:∀ j,j < S.H.length->(gt14 S.H j).s = 4->us14 usH S.H (gt14 S.H j).f = true:=fun j hj h4 => by
  have h5:=(e7.2.1 j hj (by obtain ⟨x,hx⟩:∃ x,gt14 S.H j = x:=⟨_,rfl⟩; rw [hx] at h4 ⊢; simp [usH,h4])).1;rcases h5 with h5 | h5 | h5
  · exact h5.2.1
  · rw [h4] at h5; exact absurd h5.1 (by decide)
  · rw [h4] at h5; exact absurd h5.1 (by decide)
 have HC9:=qz (fun W (h:Bx14 w S A0 A1 A2 A3 A4 n0 n1 n2 n3 n4 c0 c1 c2 c3 c4 sq W) => rqueue14 _ S true W h.st e7.1.1 hok4 (by simp [e9]));have HCA:=qz (fun W (h:Bx14 w S A0 A1 A2 A3 A4 n0 n1 n2 n3 n4 c0 c1 c2 c3 c4 sq W) => rcoinArrows14 _ S W h.st);have HLA:Hid ((cArr14 S S.T.length).length<=1000000):=qz (by have:=cArr14_len S S.T.length; omega)
 have HRA:=qz (fun W Ad c (hr:Aq W W.heap.size Ad (cArr14 S S.T.length)) => rdring14 n0 (by omega) Ad _ c true W hr HLA.out (by rw [<- hl0]; simp [e10]))
 have hok6:∀ j,j < S.H.length->(gt14 S.H j).s = 6->us14 usL S.L (gt14 S.H j).f = true:=fun j hj h4 => by
  have h5:=(e7.2.1 j hj (by obtain ⟨x,hx⟩:∃ x,gt14 S.H j = x:=⟨_,rfl⟩; rw [hx] at h4 ⊢; simp [usH,h4])).1;rcases h5 with h5 | h5 | h5
  · rw [h4] at h5; exact absurd h5.1 (by decide)
  · exact h5.2
  · rw [h4] at h5; exact absurd h5.1 (by decide)
 have HCB:=qz (fun W (h:Bx14 w S A0 A1 A2 A3 A4 n0 n1 n2 n3 n4 c0 c1 c2 c3 c4 sq W) => rthreadArrows14 _ S W h.st hok6);have HLB:Hid ((tArr14 S S.H.length).length<=1000000):=qz (by have:=tArr14_len S S.H.length; omega)
 have HRB:=qz (fun W Ad c (hr:Aq W W.heap.size Ad (tArr14 S S.H.length)) => rdring14 n2 (by omega) Ad _ c b W hr HLB.out (by rw [<- hl2]; exact hb));clear hs e0 e1 e2 e3 e4 e5 e6 e7 e8 e9 e10 hb hok4 hok6 hl0 hl1 hl2 hm0 hm1 hm2 hq0;have HA:=qz hA;subst hA;go_enter Tryz.func7,Tryz.ntmps7;obtain ⟨c6_0,c6_1,c6_2,c6_3,c6_4,c6_5⟩:=ce6 HX.out.x;go_wp2_with fail
 refine (HC6.out _ HX.out).mono ?_;rintro e w6 ⟨rfl,hb6⟩;have HX6:=qz (HX.out.step hb6);clear HC6 hb6;obtain ⟨c7_0,c7_1,c7_2,c7_3,c7_4,c7_5⟩:=ce6 HX6.out.x;go_wp2_with fail;refine (HC7.out _ HX6.out).mono ?_;rintro e w7 ⟨rfl,hb7⟩;have HX7:=qz (HX6.out.step hb7);clear HC7 hb7;obtain ⟨c8_0,c8_1,c8_2,c8_3,c8_4,c8_5⟩:=ce6 HX7.out.x;go_wp2_with fail
 refine (HC8.out _ HX7.out).mono ?_;rintro e w8 ⟨rfl,hb8⟩;have HX8:=qz (HX7.out.step hb8);clear HC8 hb8;obtain ⟨c9_0,c9_1,c9_2,c9_3,c9_4,c9_5⟩:=ce6 HX8.out.x;go_wp2_with fail;refine (HC9.out _ HX8.out).mono ?_;rintro e w9 ⟨rfl,hb9⟩;have HX9:=qz (HX8.out.step hb9);clear HC9 hb9;have HXN:=qz (HX9.out.step (Below.refl _ _).drew);obtain ⟨wn,hwn⟩:=exq w9.drew
 rw [hwn] at HXN;go_wp2_with fail;refine wp_region_held_drew (S:=Bx14 w S (some ⟨a,of,none⟩) A1 A2 A3 A4 n0 n1 n2 n3 n4 c0 c1 c2 c3 c4 sq) (by kernel_rfl) (by rw [hwn]; exact HXN.out) (fun hHeld => ?_);rw [hwn] at hHeld ⊢;clear hwn;have HBS:=HXN;refine tkq 0 ?_;refine tk 1 (v:=?_) (fun W hS => ?_) ?_;rotate_left
 ·
  try try dsimp only at hS
  obtain ⟨z0,z1,z2,z3,z4,z5⟩:=ce6 hS.x;go_simp
  try with_reducible rfl
 try simp only [Act.put,pt1,pt2,pt3]
 refine rdy 2 (fun K hK => ?_);have HBS0:=HBS;go_simp;refine (HCA.out _ HBS0.out).mono ?_;rintro e wn ⟨Ac,cc,rfl,hqa,hb⟩;have HBS:=qz (HBS0.out.step hb);have HQA:=qz hqa;clear hb hqa HBS0;refine koq hK HBS.out (fun hHeld=>?_);clear hK K;refine rdy 3 (fun K hK => ?_);have HBS0:=HBS;go_simp;refine (HRA.out _ Ac cc HQA.out).mono ?_;rintro e wn ⟨rfl,hb⟩
 have HBS:=qz (HBS0.out.step hb);clear hb HBS0 HQA;refine koq hK HBS.out (fun hHeld=>?_);clear hK K;refine tkq 4 ?_;refine tkq 5 ?_;refine tkq 6 ?_;refine tk 7 (v:=?_) (fun W hS => ?_) ?_;rotate_left
 ·
  try try dsimp only at hS
  have z0:=hS.x.cell 2;go_simp
  try with_reducible rfl
 try simp only [Act.put,pt1,pt2,pt3]
 refine tkq 8 ?_;refine tk 9 (v:=?_) (fun W hS => ?_) ?_;rotate_left
 ·
  try try dsimp only at hS
  obtain ⟨z0,z1,z2,z3,z4,z5⟩:=ce6 hS.x;go_simp
  try with_reducible rfl
 try simp only [Act.put,pt1,pt2,pt3]
 refine rdy 10 (fun K hK => ?_);have HBS0:=HBS;go_simp;refine (HCB.out _ HBS0.out).mono ?_;rintro e wn ⟨Ad,cd,rfl,hqa,hb⟩;have HBS:=qz (HBS0.out.step hb);have HQA:=qz hqa;clear hb hqa HBS0;refine koq hK HBS.out (fun hHeld=>?_);clear hK K;refine rdy 11 (fun K hK => ?_);have HBS0:=HBS;go_simp;refine (HRB.out _ Ad cd HQA.out).mono ?_;rintro e wn ⟨rfl,hb⟩
 have HBS:=qz (HBS0.out.step hb);clear hb HBS0 HQA;refine koq hK HBS.out (fun hHeld=>?_);clear hK K;refine tkq 12 ?_;refine tkq 13 ?_;refine rdy 14 (fun K hK => ?_);go_simp;refine koq hK HBS.out (fun hHeld=>?_);clear hK K;refine wpAnyH_done (by kernel_rfl) ?_ _;clear hHeld;go_wp2_with fail;go_ret;exact ⟨by simp,HBS.out.b⟩
theorem tidyC14 (S:Sv14) (h:1<=S.C.length):Tidy14 usC S.C 16↔S.C.length<=16/\gt14 S.C (S.C.length - 1) = true:=by
 unfold Tidy14;rw [en14_full];constructor
 ·
  rintro ⟨h1,h2 | h2,_⟩
  · omega
  · exact ⟨h1,h2⟩
 ·
  rintro ⟨h1,h2⟩;exact ⟨h1,.inr h2,fun j _ hu => hu⟩
theorem used0_14 (S:Sv14):us14 usC S.C 0 = true↔1<=S.C.length/\gt14 S.C 0 = true:=by
 have hn:us14 usC S.C ((0:Nat):Int) = usC (gt14 S.C 0):=us14_nat _ _ _;constructor
 ·
  intro h;have h2:gt14 S.C 0 = true:=hn.symm.trans h;refine ⟨Classical.byContradiction (fun hl => ?_),h2⟩;rw [gt14_out (by omega)] at h2;cases h2
 ·
  rintro ⟨_,h⟩;exact hn.trans h
theorem rfine14_iff (S:Sv14):Fine14 S↔1<=S.q/\S.q<=1000/\1<=S.C.length/\S.C.length<=16/\gt14 S.C 0 = true/\gt14 S.C (S.C.length - 1) = true/\RTickets14 S/\RThreads14 S/\RLocks14 S/\Queue14 S/\Free14R S.C.length (cArr14 S S.T.length)/\Free14R S.H.length (tArr14 S S.H.length):=by
 constructor
 ·
  rintro ⟨h0,h1,⟨t0,t1,t2,t3⟩,hu,ht,hh,hl,hq,f0,f1⟩;obtain ⟨h2,h4⟩:=(used0_14 S).1 hu;obtain ⟨h3,h5⟩:=(tidyC14 S h2).1 t0;exact ⟨h0,h1,h2,h3,h4,h5,⟨t1,ht⟩,⟨t2,hh⟩,⟨t3,hl⟩,hq,f0,f1⟩
 ·
  rintro ⟨h0,h1,h2,h3,h4,h5,⟨t1,ht⟩,⟨t2,hh⟩,⟨t3,hl⟩,hq,f0,f1⟩;exact ⟨h0,h1,⟨(tidyC14 S h2).2 ⟨h3,h5⟩,t1,t2,t3⟩,(used0_14 S).2 ⟨h2,h4⟩,ht,hh,hl,hq,f0,f1⟩
theorem rfine14 (v:Value) (S:Sv14) (b:Bool) (w:World) (h:St14 w v S) (hb0:b = true↔Fine14 S) :
  Calls Tryz.prog 7 #[v] w fun e w' => e = .returned (.bool b)/\Below w.heap.size w w':=by
 have hb:=hb0.trans (rfine14_iff S);by_cases e0:1<=S.q
 case neg =>
  obtain rfl:b = false:=bool14_of hb (fun h => e0 h.1);exact rfine14_0 v S w h e0
 by_cases e1:S.q<=1000
 case neg =>
  obtain rfl:b = false:=bool14_of hb (fun h => e1 h.2.1);exact rfine14_1 v S w h e0 e1
 by_cases e2:1<=S.C.length
 case neg =>
  obtain rfl:b = false:=bool14_of hb (fun h => e2 h.2.2.1);exact rfine14_2 v S w h e0 e1 e2
 by_cases e3:S.C.length<=16
 case neg =>
  obtain rfl:b = false:=bool14_of hb (fun h => e3 h.2.2.2.1);exact rfine14_3 v S w h e0 e1 e2 e3
 by_cases e4:gt14 S.C 0 = true
 case neg =>
  obtain rfl:b = false:=bool14_of hb (fun h => e4 h.2.2.2.2.1);exact rfine14_4 v S w h e0 e1 e2 e3 e4
 by_cases e5:gt14 S.C (S.C.length - 1) = true
 case neg =>
  obtain rfl:b = false:=bool14_of hb (fun h => e5 h.2.2.2.2.2.1);exact rfine14_5 v S w h e0 e1 e2 e3 e4 e5
 by_cases e6:RTickets14 S
 case neg =>
  obtain rfl:b = false:=bool14_of hb (fun h => e6 h.2.2.2.2.2.2.1);exact rfine14_6 v S w h e0 e1 e2 e3 e4 e5 e6
 by_cases e7:RThreads14 S
 case neg =>
  obtain rfl:b = false:=bool14_of hb (fun h => e7 h.2.2.2.2.2.2.2.1);exact rfine14_7 v S w h e0 e1 e2 e3 e4 e5 e6 e7
 by_cases e8:RLocks14 S
 case neg =>
  obtain rfl:b = false:=bool14_of hb (fun h => e8 h.2.2.2.2.2.2.2.2.1);exact rfine14_8 v S w h e0 e1 e2 e3 e4 e5 e6 e7 e8
 by_cases e9:Queue14 S
 case neg =>
  obtain rfl:b = false:=bool14_of hb (fun h => e9 h.2.2.2.2.2.2.2.2.2.1);exact rfine14_9 v S w h e0 e1 e2 e3 e4 e5 e6 e7 e8 e9
 by_cases e10:Free14R S.C.length (cArr14 S S.T.length)
 case neg =>
  obtain rfl:b = false:=bool14_of hb (fun h => e10 h.2.2.2.2.2.2.2.2.2.2.1);exact rfine14_10 v S w h e0 e1 e2 e3 e4 e5 e6 e7 e8 e9 e10
 exact rfine14_11 v S w h e0 e1 e2 e3 e4 e5 e6 e7 e8 e9 e10 b (by rw [hb]; exact ⟨fun h => h.2.2.2.2.2.2.2.2.2.2.2,fun h => ⟨e0,e1,e2,e3,e4,e5,e6,e7,e8,e9,e10,h⟩⟩)
theorem rtickets15_0 (v:Value) (S:Sv14) (ii:Int) (w:World) (h:St14 w v S) :
  Calls Tryz.prog 49 #[v,.int .i64 0,.int .i64 ii] w (RetR15 w (tks15 S (isw15 ii) S.T.length)):=by
 obtain ⟨A0,A1,A2,A3,A4,n0,n1,n2,n3,n4,c0,c1,c2,c3,c4,sq,rfl,hs⟩:=h;have HP:Hid (RetR15 w (tks15 S (isw15 ii) S.T.length) = fun e w' => ∃ A c,e = .returned (.slice A (tks15 S (isw15 ii) n1).length c)/\Rd w' w'.heap.size A (tks15 S (isw15 ii) n1)/\Below w.heap.size w w'):=qz (by rw [hs.l1]; rfl)
 have HX0:Hid (Ti15 w (w.heap.size + 1) S A0 A1 A2 A3 A4 n0 n1 n2 n3 n4 c0 c1 c2 c3 c4 sq none 0 0 (tks15 S (isw15 ii) 0) (w.alloc (.cells #[.slice A0 n0 c0,.slice A1 n1 c1,.slice A2 n2 c2,.slice A3 n3 c3,.slice A4 n4 c4,.int .i64 sq] 28))):=qz (Ti15.start hs (Bx14.new hs) (by omega) (by simp));have HL1:=qz hs.l1;have hnb:=hs.m1;clear hs
 go_enter Tryz.func49,Tryz.ntmps49;go_wp2_with fail;go_loopw [7,8] (fun v i wr => ∃ (k:Nat) (A:Option Addr) (m c:Nat),v = .slice A m c/\i = .int .i64 (k:Int)/\k<=n1/\Hid (Ti15 w (w.heap.size + 1) S A0 A1 A2 A3 A4 n0 n1 n2 n3 n4 c0 c1 c2 c3 c4 sq A m c (tks15 S (isw15 ii) k) wr)) (fun _ i _ => n1 - (intOf i).toNat)
 case atStart => exact ⟨0,none,0,0,rfl,rfl,by omega,HX0⟩
 case round =>
  clear HX0;obtain ⟨k,A,m,c,rfl,rfl,hk,HW⟩:=hrel;have t1:=HW.out.b.x.cell 1;by_cases hkn:k < n1
  ·
   obtain ⟨a,of,hA,hab,hq⟩:=Lq.at_ len14T (by omega) HW.out.b.s.r1 (show k < S.T.length by have:=HL1.out; omega);obtain ⟨x,hx⟩:=exq (gt14 S.T k);rw [hx] at hq;obtain ⟨xu,xc,xa,xk,xt,xo⟩:=x;have e0:wr.cell? ⟨a,of + k * 6,none⟩ = some (.bool xu):=hq 0 _ rfl;have e1:wr.cell? ⟨a,of + k * 6 + 1,none⟩ = some (.int .i64 xc):=hq 1 _ rfl
   have e2:wr.cell? ⟨a,of + k * 6 + 2,none⟩ = some (.int .i64 xa):=hq 2 _ rfl;have e3:wr.cell? ⟨a,of + k * 6 + 3,none⟩ = some (.int .i64 xk):=hq 3 _ rfl;have e4:wr.cell? ⟨a,of + k * 6 + 4,none⟩ = some (.int .i64 xt):=hq 4 _ rfl;have e5:wr.cell? ⟨a,of + k * 6 + 5,none⟩ = some (.bool xo):=hq 5 _ rfl;have i0:(0:Int)<=(k:Int):=by omega
   have i1:(k:Int) < (n1:Int):=by omega
   have HV:=qz (Ti15.step HW.out (b1' wr (.cells #[.bool xu,.int .i64 xc,.int .i64 xa,.int .i64 xk,.int .i64 xt,.bool xo] 55)));have hv:=Blk.new wr 55 #[.bool xu,.int .i64 xc,.int .i64 xa,.int .i64 xk,.int .i64 xt,.bool xo];obtain ⟨v0,v1,v2,v3,v4,v5⟩:=ce6 hv
   have HNX:Hid (tks15 S (isw15 ii) (k + 1) = tks15 S (isw15 ii) k ++ if (xu && (isw15 ii) ⟨xu,xc,xa,xk,xt,xo⟩) then [k] else []):=qz (by
    have h:=all11_next (fun j => (gt14 S.T j).u && (isw15 ii) (gt14 S.T j)) k;rw [hx] at h
    exact h)
   obtain ⟨X,hX⟩:=exq (wr.alloc (.cells #[.bool xu,.int .i64 xc,.int .i64 xa,.int .i64 xk,.int .i64 xt,.bool xo] 55));rw [hX] at HV v0 v1 v2 v3 v4 v5;have hmk:m<=k:=by rw [<- HW.out.l]; exact tks15_len S (isw15 ii) k
   clear hv hq hx hab;subst hA;by_cases hm:xc = ii
   ·
    have hp:(xc == ii) = true:=by simp [hm]
    have HPE:Hid ((isw15 ii) ⟨xu,xc,xa,xk,xt,xo⟩ = true):=qz (by simp [isw15,hm]);clear hm
    cases xu with
    | false =>
     have HN:=qz (HV.out.congr (ys:=tks15 S (isw15 ii) (k + 1)) (by rw [HNX.out,HPE.out]; simp));clear HV HNX HPE;go_wp2_with fail;go_roundw
     case rel => exact ⟨k + 1,A,m,c,rfl,by go_num,by omega,HN⟩
     case measure => simp [intOf]; omega
    | true =>
     obtain ⟨Az,cz,W2,hrun,har,_⟩:=HV.out.push k (by omega);have HRUN:=qz hrun;have HAR:=qz (har.congr (ys:=tks15 S (isw15 ii) (k + 1)) (by rw [HNX.out,HPE.out]; simp));clear HV HNX HPE hrun har;go_wp2_with (at_builtin; go_loud (refine wpList_append_14 _ rfl (.tmp 66) (.tmp 68) 26 rfl _ _ _ _ rfl rfl HRUN.out ?_));go_roundw
     case rel => exact ⟨k + 1,Az,m + 1,cz,rfl,by go_num,by omega,HAR⟩
     case measure => simp [intOf]; omega
   ·
    have hp:(xc == ii) = false:=by simp [hm]
    have HPE:Hid ((isw15 ii) ⟨xu,xc,xa,xk,xt,xo⟩ = false):=qz (by simp [isw15,hm]);clear hm;have HN:=qz (HV.out.congr (ys:=tks15 S (isw15 ii) (k + 1)) (by rw [HNX.out,HPE.out]; simp));clear HV HNX HPE
    cases xu with
    | false =>
     go_wp2_with fail;go_roundw
     case rel => exact ⟨k + 1,A,m,c,rfl,by go_num,by omega,HN⟩
     case measure => simp [intOf]; omega
    | true =>
     go_wp2_with fail;go_roundw
     case rel => exact ⟨k + 1,A,m,c,rfl,by go_num,by omega,HN⟩
     case measure => simp [intOf]; omega
  ·
   obtain rfl:k = n1:=by omega
   have HL:=qz HW.out.l;have h1:¬ (k:Int) < (k:Int):=by omega
   go_wp2_with fail;go_ret;rw [HP.out];exact ⟨A,c,by rw [HL.out]; rfl,HW.out.rd,HW.out.b.b⟩
theorem rtickets15_1 (v:Value) (S:Sv14) (ii:Int) (w:World) (h:St14 w v S) :
  Calls Tryz.prog 49 #[v,.int .i64 1,.int .i64 ii] w (RetR15 w (tks15 S (fnd15 2 ii) S.T.length)):=by
 obtain ⟨A0,A1,A2,A3,A4,n0,n1,n2,n3,n4,c0,c1,c2,c3,c4,sq,rfl,hs⟩:=h;have HP:Hid (RetR15 w (tks15 S (fnd15 2 ii) S.T.length) = fun e w' => ∃ A c,e = .returned (.slice A (tks15 S (fnd15 2 ii) n1).length c)/\Rd w' w'.heap.size A (tks15 S (fnd15 2 ii) n1)/\Below w.heap.size w w'):=qz (by rw [hs.l1]; rfl)
 have HX0:Hid (Ti15 w (w.heap.size + 1) S A0 A1 A2 A3 A4 n0 n1 n2 n3 n4 c0 c1 c2 c3 c4 sq none 0 0 (tks15 S (fnd15 2 ii) 0) (w.alloc (.cells #[.slice A0 n0 c0,.slice A1 n1 c1,.slice A2 n2 c2,.slice A3 n3 c3,.slice A4 n4 c4,.int .i64 sq] 28))):=qz (Ti15.start hs (Bx14.new hs) (by omega) (by simp));have HL1:=qz hs.l1;have hnb:=hs.m1;clear hs
 go_enter Tryz.func49,Tryz.ntmps49;go_wp2_with fail;go_loopw [7,8] (fun v i wr => ∃ (k:Nat) (A:Option Addr) (m c:Nat),v = .slice A m c/\i = .int .i64 (k:Int)/\k<=n1/\Hid (Ti15 w (w.heap.size + 1) S A0 A1 A2 A3 A4 n0 n1 n2 n3 n4 c0 c1 c2 c3 c4 sq A m c (tks15 S (fnd15 2 ii) k) wr)) (fun _ i _ => n1 - (intOf i).toNat)
 case atStart => exact ⟨0,none,0,0,rfl,rfl,by omega,HX0⟩
 case round =>
  clear HX0;obtain ⟨k,A,m,c,rfl,rfl,hk,HW⟩:=hrel;have t1:=HW.out.b.x.cell 1;by_cases hkn:k < n1
  ·
   obtain ⟨a,of,hA,hab,hq⟩:=Lq.at_ len14T (by omega) HW.out.b.s.r1 (show k < S.T.length by have:=HL1.out; omega);obtain ⟨x,hx⟩:=exq (gt14 S.T k);rw [hx] at hq;obtain ⟨xu,xc,xa,xk,xt,xo⟩:=x;have e0:wr.cell? ⟨a,of + k * 6,none⟩ = some (.bool xu):=hq 0 _ rfl;have e1:wr.cell? ⟨a,of + k * 6 + 1,none⟩ = some (.int .i64 xc):=hq 1 _ rfl
   have e2:wr.cell? ⟨a,of + k * 6 + 2,none⟩ = some (.int .i64 xa):=hq 2 _ rfl;have e3:wr.cell? ⟨a,of + k * 6 + 3,none⟩ = some (.int .i64 xk):=hq 3 _ rfl;have e4:wr.cell? ⟨a,of + k * 6 + 4,none⟩ = some (.int .i64 xt):=hq 4 _ rfl;have e5:wr.cell? ⟨a,of + k * 6 + 5,none⟩ = some (.bool xo):=hq 5 _ rfl;have i0:(0:Int)<=(k:Int):=by omega
   have i1:(k:Int) < (n1:Int):=by omega
   have HV:=qz (Ti15.step HW.out (b1' wr (.cells #[.bool xu,.int .i64 xc,.int .i64 xa,.int .i64 xk,.int .i64 xt,.bool xo] 55)));have hv:=Blk.new wr 55 #[.bool xu,.int .i64 xc,.int .i64 xa,.int .i64 xk,.int .i64 xt,.bool xo];obtain ⟨v0,v1,v2,v3,v4,v5⟩:=ce6 hv
   have HNX:Hid (tks15 S (fnd15 2 ii) (k + 1) = tks15 S (fnd15 2 ii) k ++ if (xu && (fnd15 2 ii) ⟨xu,xc,xa,xk,xt,xo⟩) then [k] else []):=qz (by
    have h:=all11_next (fun j => (gt14 S.T j).u && (fnd15 2 ii) (gt14 S.T j)) k;rw [hx] at h
    exact h)
   obtain ⟨X,hX⟩:=exq (wr.alloc (.cells #[.bool xu,.int .i64 xc,.int .i64 xa,.int .i64 xk,.int .i64 xt,.bool xo] 55));rw [hX] at HV v0 v1 v2 v3 v4 v5;have hmk:m<=k:=by rw [<- HW.out.l]; exact tks15_len S (fnd15 2 ii) k
   clear hv hq hx hab;subst hA;by_cases hk2:xk = 2
   ·
    subst hk2;by_cases hm:xt = ii
    ·
     have hp:(xt == ii) = true:=by simp [hm]
     have HPE:Hid ((fnd15 2 ii) ⟨xu,xc,xa,2,xt,xo⟩ = true):=qz (by simp [fnd15,hm]);clear hm
     cases xu with
     | false =>
      have HN:=qz (HV.out.congr (ys:=tks15 S (fnd15 2 ii) (k + 1)) (by rw [HNX.out,HPE.out]; simp));clear HV HNX HPE;go_wp2_with fail;go_roundw
      case rel => exact ⟨k + 1,A,m,c,rfl,by go_num,by omega,HN⟩
      case measure => simp [intOf]; omega
     | true =>
      obtain ⟨Az,cz,W2,hrun,har,_⟩:=HV.out.push k (by omega);have HRUN:=qz hrun;have HAR:=qz (har.congr (ys:=tks15 S (fnd15 2 ii) (k + 1)) (by rw [HNX.out,HPE.out]; simp));clear HV HNX HPE hrun har;go_wp2_with (at_builtin; go_loud (refine wpList_append_14 _ rfl (.tmp 66) (.tmp 68) 26 rfl _ _ _ _ rfl rfl HRUN.out ?_));go_roundw
      case rel => exact ⟨k + 1,Az,m + 1,cz,rfl,by go_num,by omega,HAR⟩
      case measure => simp [intOf]; omega
    ·
     have hp:(xt == ii) = false:=by simp [hm]
     have HPE:Hid ((fnd15 2 ii) ⟨xu,xc,xa,2,xt,xo⟩ = false):=qz (by simp [fnd15,hm]);clear hm;have HN:=qz (HV.out.congr (ys:=tks15 S (fnd15 2 ii) (k + 1)) (by rw [HNX.out,HPE.out]; simp));clear HV HNX HPE
     cases xu with
     | false =>
      go_wp2_with fail;go_roundw
      case rel => exact ⟨k + 1,A,m,c,rfl,by go_num,by omega,HN⟩
      case measure => simp [intOf]; omega
     | true =>
      go_wp2_with fail;go_roundw
      case rel => exact ⟨k + 1,A,m,c,rfl,by go_num,by omega,HN⟩
      case measure => simp [intOf]; omega
   ·
    have hp:(xk == 2) = false:=by simp [hk2]
    have HPE:Hid ((fnd15 2 ii) ⟨xu,xc,xa,xk,xt,xo⟩ = false):=qz (by simp [fnd15,hk2]);have HN:=qz (HV.out.congr (ys:=tks15 S (fnd15 2 ii) (k + 1)) (by rw [HNX.out,HPE.out]; simp));clear HV HNX HPE
    cases xu with
    | false =>
     go_wp2_with fail;go_roundw
     case rel => exact ⟨k + 1,A,m,c,rfl,by go_num,by omega,HN⟩
     case measure => simp [intOf]; omega
    | true =>
     go_wp2_with fail;go_roundw
     case rel => exact ⟨k + 1,A,m,c,rfl,by go_num,by omega,HN⟩
     case measure => simp [intOf]; omega
  ·
   obtain rfl:k = n1:=by omega
   have HL:=qz HW.out.l;have h1:¬ (k:Int) < (k:Int):=by omega
   go_wp2_with fail;go_ret;rw [HP.out];exact ⟨A,c,by rw [HL.out]; rfl,HW.out.rd,HW.out.b.b⟩
theorem rtickets15_2 (v:Value) (S:Sv14) (ii:Int) (w:World) (h:St14 w v S) :
  Calls Tryz.prog 49 #[v,.int .i64 2,.int .i64 ii] w (RetR15 w (tks15 S (fnd15 1 ii) S.T.length)):=by
 obtain ⟨A0,A1,A2,A3,A4,n0,n1,n2,n3,n4,c0,c1,c2,c3,c4,sq,rfl,hs⟩:=h;have HP:Hid (RetR15 w (tks15 S (fnd15 1 ii) S.T.length) = fun e w' => ∃ A c,e = .returned (.slice A (tks15 S (fnd15 1 ii) n1).length c)/\Rd w' w'.heap.size A (tks15 S (fnd15 1 ii) n1)/\Below w.heap.size w w'):=qz (by rw [hs.l1]; rfl)
 have HX0:Hid (Ti15 w (w.heap.size + 1) S A0 A1 A2 A3 A4 n0 n1 n2 n3 n4 c0 c1 c2 c3 c4 sq none 0 0 (tks15 S (fnd15 1 ii) 0) (w.alloc (.cells #[.slice A0 n0 c0,.slice A1 n1 c1,.slice A2 n2 c2,.slice A3 n3 c3,.slice A4 n4 c4,.int .i64 sq] 28))):=qz (Ti15.start hs (Bx14.new hs) (by omega) (by simp));have HL1:=qz hs.l1;have hnb:=hs.m1;clear hs
 go_enter Tryz.func49,Tryz.ntmps49;go_wp2_with fail;go_loopw [7,8] (fun v i wr => ∃ (k:Nat) (A:Option Addr) (m c:Nat),v = .slice A m c/\i = .int .i64 (k:Int)/\k<=n1/\Hid (Ti15 w (w.heap.size + 1) S A0 A1 A2 A3 A4 n0 n1 n2 n3 n4 c0 c1 c2 c3 c4 sq A m c (tks15 S (fnd15 1 ii) k) wr)) (fun _ i _ => n1 - (intOf i).toNat)
 case atStart => exact ⟨0,none,0,0,rfl,rfl,by omega,HX0⟩
 case round =>
  clear HX0;obtain ⟨k,A,m,c,rfl,rfl,hk,HW⟩:=hrel;have t1:=HW.out.b.x.cell 1;by_cases hkn:k < n1
  ·
   obtain ⟨a,of,hA,hab,hq⟩:=Lq.at_ len14T (by omega) HW.out.b.s.r1 (show k < S.T.length by have:=HL1.out; omega);obtain ⟨x,hx⟩:=exq (gt14 S.T k);rw [hx] at hq;obtain ⟨xu,xc,xa,xk,xt,xo⟩:=x;have e0:wr.cell? ⟨a,of + k * 6,none⟩ = some (.bool xu):=hq 0 _ rfl;have e1:wr.cell? ⟨a,of + k * 6 + 1,none⟩ = some (.int .i64 xc):=hq 1 _ rfl
   have e2:wr.cell? ⟨a,of + k * 6 + 2,none⟩ = some (.int .i64 xa):=hq 2 _ rfl;have e3:wr.cell? ⟨a,of + k * 6 + 3,none⟩ = some (.int .i64 xk):=hq 3 _ rfl;have e4:wr.cell? ⟨a,of + k * 6 + 4,none⟩ = some (.int .i64 xt):=hq 4 _ rfl;have e5:wr.cell? ⟨a,of + k * 6 + 5,none⟩ = some (.bool xo):=hq 5 _ rfl;have i0:(0:Int)<=(k:Int):=by omega
   have i1:(k:Int) < (n1:Int):=by omega
   have HV:=qz (Ti15.step HW.out (b1' wr (.cells #[.bool xu,.int .i64 xc,.int .i64 xa,.int .i64 xk,.int .i64 xt,.bool xo] 55)));have hv:=Blk.new wr 55 #[.bool xu,.int .i64 xc,.int .i64 xa,.int .i64 xk,.int .i64 xt,.bool xo];obtain ⟨v0,v1,v2,v3,v4,v5⟩:=ce6 hv
   have HNX:Hid (tks15 S (fnd15 1 ii) (k + 1) = tks15 S (fnd15 1 ii) k ++ if (xu && (fnd15 1 ii) ⟨xu,xc,xa,xk,xt,xo⟩) then [k] else []):=qz (by
    have h:=all11_next (fun j => (gt14 S.T j).u && (fnd15 1 ii) (gt14 S.T j)) k;rw [hx] at h
    exact h)
   obtain ⟨X,hX⟩:=exq (wr.alloc (.cells #[.bool xu,.int .i64 xc,.int .i64 xa,.int .i64 xk,.int .i64 xt,.bool xo] 55));rw [hX] at HV v0 v1 v2 v3 v4 v5;have hmk:m<=k:=by rw [<- HW.out.l]; exact tks15_len S (fnd15 1 ii) k
   clear hv hq hx hab;subst hA;by_cases hk2:xk = 1
   ·
    subst hk2;by_cases hm:xt = ii
    ·
     have hp:(xt == ii) = true:=by simp [hm]
     have HPE:Hid ((fnd15 1 ii) ⟨xu,xc,xa,1,xt,xo⟩ = true):=qz (by simp [fnd15,hm]);clear hm
     cases xu with
     | false =>
      have HN:=qz (HV.out.congr (ys:=tks15 S (fnd15 1 ii) (k + 1)) (by rw [HNX.out,HPE.out]; simp));clear HV HNX HPE;go_wp2_with fail;go_roundw
      case rel => exact ⟨k + 1,A,m,c,rfl,by go_num,by omega,HN⟩
      case measure => simp [intOf]; omega
     | true =>
      obtain ⟨Az,cz,W2,hrun,har,_⟩:=HV.out.push k (by omega);have HRUN:=qz hrun;have HAR:=qz (har.congr (ys:=tks15 S (fnd15 1 ii) (k + 1)) (by rw [HNX.out,HPE.out]; simp));clear HV HNX HPE hrun har;go_wp2_with (at_builtin; go_loud (refine wpList_append_14 _ rfl (.tmp 66) (.tmp 68) 26 rfl _ _ _ _ rfl rfl HRUN.out ?_));go_roundw
      case rel => exact ⟨k + 1,Az,m + 1,cz,rfl,by go_num,by omega,HAR⟩
      case measure => simp [intOf]; omega
    ·
     have hp:(xt == ii) = false:=by simp [hm]
     have HPE:Hid ((fnd15 1 ii) ⟨xu,xc,xa,1,xt,xo⟩ = false):=qz (by simp [fnd15,hm]);clear hm;have HN:=qz (HV.out.congr (ys:=tks15 S (fnd15 1 ii) (k + 1)) (by rw [HNX.out,HPE.out]; simp));clear HV HNX HPE
     cases xu with
     | false =>
      go_wp2_with fail;go_roundw
      case rel => exact ⟨k + 1,A,m,c,rfl,by go_num,by omega,HN⟩
      case measure => simp [intOf]; omega
     | true =>
      go_wp2_with fail;go_roundw
      case rel => exact ⟨k + 1,A,m,c,rfl,by go_num,by omega,HN⟩
      case measure => simp [intOf]; omega
   ·
    have hp:(xk == 1) = false:=by simp [hk2]
    have HPE:Hid ((fnd15 1 ii) ⟨xu,xc,xa,xk,xt,xo⟩ = false):=qz (by simp [fnd15,hk2]);have HN:=qz (HV.out.congr (ys:=tks15 S (fnd15 1 ii) (k + 1)) (by rw [HNX.out,HPE.out]; simp));clear HV HNX HPE
    cases xu with
    | false =>
     go_wp2_with fail;go_roundw
     case rel => exact ⟨k + 1,A,m,c,rfl,by go_num,by omega,HN⟩
     case measure => simp [intOf]; omega
    | true =>
     go_wp2_with fail;go_roundw
     case rel => exact ⟨k + 1,A,m,c,rfl,by go_num,by omega,HN⟩
     case measure => simp [intOf]; omega
  ·
   obtain rfl:k = n1:=by omega
   have HL:=qz HW.out.l;have h1:¬ (k:Int) < (k:Int):=by omega
   go_wp2_with fail;go_ret;rw [HP.out];exact ⟨A,c,by rw [HL.out]; rfl,HW.out.rd,HW.out.b.b⟩
theorem used16 (v:Value) (S:Sv14) (i:Int) (b:Bool) (w:World) (h:St14 w v S) (hb:us14 usH S.H i = b) :
  Calls Tryz.prog 76 #[v,.int .i64 i] w fun e w' => e = .returned (.bool b)/\Below w.heap.size w w':=by
 obtain ⟨A0,A1,A2,A3,A4,n0,n1,n2,n3,n4,c0,c1,c2,c3,c4,sq,rfl,hs⟩:=h;have hx0:=Bx14.new hs;have hxn:=hx0.step (Below.refl _ _).drew;obtain ⟨W1,hW1⟩:=exq (w.alloc (.cells #[.slice A0 n0 c0,.slice A1 n1 c1,.slice A2 n2 c2,.slice A3 n3 c3,.slice A4 n4 c4,.int .i64 sq] 28));rw [hW1] at hx0 hxn;obtain ⟨x,hx⟩:=exq (at14 usH S.H i);obtain ⟨xz,xf,xc,xq,xu⟩:=x
 have HX0:=qz hx0;obtain ⟨p0,p1,p2,p3,p4,p5⟩:=ce6 hx0.x;have HT:=qz (fun W h => thread14 (.agg #[.slice A0 n0 c0,.slice A1 n1 c1,.slice A2 n2 c2,.slice A3 n3 c3,.slice A4 n4 c4,.int .i64 sq]) S i xz xf xc xq xu b W h hb hx);clear hs hx0 hxn hb hx;go_enter Tryz.func76,Tryz.ntmps76;go_wp2_with fail;refine (HT.out _ HX0.out.st).mono ?_;rintro e u1 ⟨rfl,hb1⟩
 have HB1:=qz (HX0.out.b.trans (hb1.mono HX0.out.b.size));clear hb1 HT HX0 p0 p1 p2 p3 p4 p5 hW1;go_wp2_with fail;go_ret;exact ⟨rfl,HB1.out.trans ((b1' _ _).mono HB1.out.size)⟩
theorem next16 (v:Value) (S:Sv14) (i:Int) (w:World) (h:St14 w v S) :
  Calls Tryz.prog 77 #[v,.int .i64 i] w fun e w' => e = .returned (.int .i64 (nxt16 S i))/\Below w.heap.size w w':=by
 obtain ⟨A0,A1,A2,A3,A4,n0,n1,n2,n3,n4,c0,c1,c2,c3,c4,sq,rfl,hs⟩:=h;have hx0:=Bx14.new hs;have hxn:=hx0.step (Below.refl _ _).drew;obtain ⟨W1,hW1⟩:=exq (w.alloc (.cells #[.slice A0 n0 c0,.slice A1 n1 c1,.slice A2 n2 c2,.slice A3 n3 c3,.slice A4 n4 c4,.int .i64 sq] 28));rw [hW1] at hx0 hxn;obtain ⟨x,hx⟩:=exq (at14 usH S.H i);obtain ⟨xz,xf,xc,xq,xu⟩:=x
 obtain ⟨b,hb⟩:=exq (us14 usH S.H i);obtain ⟨y,hy⟩:=exq (at14 usL S.L xf);obtain ⟨yu,yh⟩:=y;obtain ⟨c,hc⟩:=exq (us14 usL S.L xf);have HN:Hid (nxt16 S i = if xz = 4 then xf else if xz = 6 then yh else -1):=qz (by rw [nxt16,hx,hy]);have HX0:=qz hx0;obtain ⟨p0,p1,p2,p3,p4,p5⟩:=ce6 hx0.x
 have HT:=qz (fun W h => thread14 (.agg #[.slice A0 n0 c0,.slice A1 n1 c1,.slice A2 n2 c2,.slice A3 n3 c3,.slice A4 n4 c4,.int .i64 sq]) S i xz xf xc xq xu b W h hb hx);have HK:=qz (fun W h => lock14 (.agg #[.slice A0 n0 c0,.slice A1 n1 c1,.slice A2 n2 c2,.slice A3 n3 c3,.slice A4 n4 c4,.int .i64 sq]) S xf yu yh c W h hc hy);clear hs hx0 hxn hb hx hc hy
 go_enter Tryz.func77,Tryz.ntmps77;go_wp2_with fail;refine (HT.out _ HX0.out.st).mono ?_;rintro e u1 ⟨rfl,hb1⟩;have HX1:=qz ((HX0.out.step hb1).step (b1' u1 (.cells #[.int .i64 xz,.int .i64 xf,.int .i64 xc,.int .i64 xq,.int .i64 xu] 60)));have hk1:=Blk.new u1 60 #[.int .i64 xz,.int .i64 xf,.int .i64 xc,.int .i64 xq,.int .i64 xu]
 obtain ⟨g1,hg1⟩:=exq u1.heap.size;have c0:=hk1.cell 0;have c1:=hk1.cell 1;obtain ⟨q0,q1,q2,q3,q4,q5⟩:=ce6 HX1.out.x;clear hb1 hk1 HT HX0 p0 p1 p2 p3 p4 p5 hW1;by_cases z4:xz = 4
 ·
  subst z4;have HE:Hid (nxt16 S i = xf):=qz (by rw [HN.out,if_pos rfl]);go_wp2_with fail;go_ret;exact ⟨by rw [HE.out]; rfl,HX1.out.b⟩
 ·
  have z4b:(xz == 4) = false:=by simp [z4]
  by_cases z6:xz = 6
  ·
   subst z6;have HE:Hid (nxt16 S i = yh):=qz (by rw [HN.out,if_neg (by decide),if_pos rfl]);go_wp2_with fail;refine (HK.out _ HX1.out.st).mono ?_;rintro e u2 ⟨rfl,hb2⟩;have hk2:=Blk.new u2 79 #[.bool yu,.int .i64 yh];have d1:=hk2.cell 1;have HB2:=qz (HX1.out.b.trans (hb2.mono HX1.out.b.size));clear hk2 hb2 HK HX1 q0 q1 q2 q3 q4 q5 c0 c1;go_wp2_with fail
   go_ret;exact ⟨by rw [HE.out]; rfl,HB2.out.trans ((b1' _ _).mono HB2.out.size)⟩
  ·
   have z6b:(xz == 6) = false:=by simp [z6]
   have HE:Hid (nxt16 S i = -1):=qz (by rw [HN.out,if_neg z4,if_neg z6]);go_wp2_with fail;go_ret;exact ⟨by rw [HE.out]; rfl,HX1.out.b⟩
def RetO16 (w:World) (l:List Nat) (e:Ending) (w':World):Prop:=∃ A c,e = .returned (.slice A l.length c)/\w'.ownsRow (w.heap.size + 1) 3 1 (.slice A l.length c) l.length (ints l)/\Below w.heap.size w w'
theorem tail16o (v:Value) (S:Sv14) (i:Int) (l:List Nat) (w:World) (h:St14 w v S) (hf:Fine14 S) (hl:Tl16 S i l) :
  Calls Tryz.prog 55 #[v,.int .i64 i] w (RetO16 w l):=by
 obtain ⟨A0,A1,A2,A3,A4,n0,n1,n2,n3,n4,c0,c1,c2,c3,c4,sq,rfl,hs⟩:=h;have HP:Hid (RetO16 w l = fun e w' => ∃ A c,e = .returned (.slice A l.length c)/\w'.ownsRow (w.heap.size + 1) 3 1 (.slice A l.length c) l.length (ints l)/\Below w.heap.size w w'):=qz rfl
 have HX0:Hid (Ti15 w (w.heap.size + 1) S A0 A1 A2 A3 A4 n0 n1 n2 n3 n4 c0 c1 c2 c3 c4 sq none 0 0 [] (w.alloc (.cells #[.slice A0 n0 c0,.slice A1 n1 c1,.slice A2 n2 c2,.slice A3 n3 c3,.slice A4 n4 c4,.int .i64 sq] 28))):=qz (Ti15.start hs (Bx14.new hs) (by omega) (by simp));have HL2:=qz hs.l2;have hm2:=hs.m2
 have HLN:Hid (l.length<=n2):=qz (by have:=hl.len hf; rw [hs.l2] at this; exact this);have HF:=qz hf;have HI:=qz hl;have HU:=qz (fun W j b (h:Bx14 w S A0 A1 A2 A3 A4 n0 n1 n2 n3 n4 c0 c1 c2 c3 c4 sq W) hb => used16 (.agg #[.slice A0 n0 c0,.slice A1 n1 c1,.slice A2 n2 c2,.slice A3 n3 c3,.slice A4 n4 c4,.int .i64 sq]) S j b W h.st hb)
 have HN:=qz (fun W j (h:Bx14 w S A0 A1 A2 A3 A4 n0 n1 n2 n3 n4 c0 c1 c2 c3 c4 sq W) => next16 (.agg #[.slice A0 n0 c0,.slice A1 n1 c1,.slice A2 n2 c2,.slice A3 n3 c3,.slice A4 n4 c4,.int .i64 sq]) S j W h.st);clear hs hf hl;go_enter Tryz.func55,Tryz.ntmps55;go_wp2_with fail
 go_loopg [1,4] (n2 + 1) (fun kx iv ov wr => ∃ (j:Int) (r p:List Nat) (A:Option Addr) (m c:Nat),iv = .int .i64 j/\ov = .slice A m c/\m + kx = n2 + 1/\m<=n2/\Hid (Tl16 S j r)/\Hid (p ++ r = l)/\Hid (Ti15 w (w.heap.size + 1) S A0 A1 A2 A3 A4 n0 n1 n2 n3 n4 c0 c1 c2 c3 c4 sq A m c p wr))
 case atStart => exact ⟨i,l,[],none,0,0,rfl,rfl,by omega,by omega,HI,qz rfl,HX0⟩
 case round =>
  clear HX0 HI;obtain ⟨j,r,p,A,m,c,rfl,rfl,hm,hmn,HI,HA,HW⟩:=hrel;obtain ⟨p0,p1,p2,p3,p4,p5⟩:=ce6 HW.out.b.x
  cases hu:us14 usH S.H j with
  | false =>
   have hc:=HU.out wr j false HW.out.b hu;have HE:Hid (p = l):=qz (by rw [<- HA.out,HI.out.no hu,List.append_nil]);have HCU:=qz hc;clear hc hu;go_wp2_with fail;refine HCU.out.mono ?_;rintro e u1 ⟨rfl,hb1⟩;have HW1:=qz (HW.out.step (hb1));clear hb1 HCU;go_wp2_with fail;go_ret;rw [HP.out]
   exact ⟨A,c,by rw [<- HW1.out.l,HE.out]; rfl,by have h9:=HW1.out.o; rw [<- HW1.out.l,HE.out] at h9; exact h9,HW1.out.b.b⟩
  | true =>
   obtain ⟨k,r2,hk,hr,ht⟩:=HI.out.cons HF.out hu;subst hk hr;have hc:=HU.out wr (k:Int) true HW.out.b hu;have HCU:=qz hc;have HT:=qz ht
   have hlt:m < n2:=by
    have h1:=HLN.out;have h2:=HW.out.l;rw [<- HA.out,List.length_append,List.length_cons] at h1;omega
   have hltI:(m:Int) < (n2:Int):=by omega
   have HCN:=qz (fun W h => HN.out W (k:Int) h);clear hc hu ht;go_wp2_with fail;refine HCU.out.mono ?_;rintro e u1 ⟨rfl,hb1⟩;have HW1:=qz (HW.out.step (hb1));obtain ⟨q0,q1,q2,q3,q4,q5⟩:=ce6 HW1.out.b.x;obtain ⟨Az,cz,W2,hrun,hti,hbl⟩:=HW1.out.push k (by omega);have HRUN:=qz hrun;have HW2:=qz hti;obtain ⟨y0,y1,y2,y3,y4,y5⟩:=ce6 HW2.out.b.x
   clear hb1 HCU hrun hti hbl;go_wp2_with (at_builtin; go_loud (refine wpList_append_14 _ rfl (.tmp 16) (.tmp 18) 26 rfl _ _ _ _ rfl rfl HRUN.out ?_));refine (HCN.out _ HW2.out.b).mono ?_;rintro e u3 ⟨rfl,hb3⟩;have HW3:=qz (HW2.out.step hb3);clear hb3;go_wp2_with fail
   go_roundg (n2 + 1 - (m + 1))
   case measure => omega
   case rel => exact ⟨nxt16 S (k:Int),r2,p ++ [k],Az,m + 1,cz,rfl,rfl,by omega,by omega,HT,qz (by rw [<- HA.out]; simp),HW3⟩
theorem tail16 (v:Value) (S:Sv14) (i:Int) (l:List Nat) (w:World) (h:St14 w v S) (hf:Fine14 S) (hl:Tl16 S i l) :
  Calls Tryz.prog 55 #[v,.int .i64 i] w (RetR15 w l):=(tail16o v S i l w h hf hl).mono fun _ _ ⟨A,c,h1,h2,h3⟩ => ⟨A,c,h1,rd15_own h2 rfl,h3⟩
end
end Go.Proofs.YtkdmnlihpebbkaaGreat
