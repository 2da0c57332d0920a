import Derived.Test.YtkdmnlihpebbkaaGreatCT4
import Derived.Deep.DeepCutAuto
import Derived.KernelRfl
import Derived.WalkSmall
set_option linter.all false
set_option maxHeartbeats 4000000
namespace Go.Proofs.YtkdmnlihpebbkaaGreat
section
open Go.RowKit
set_option maxRecDepth 100000
def Small14 (n0 n1 n2 n3 n4:Nat):Prop:=n0<=40/\n1<=200/\n2<=80/\n3<=40/\n4<=100
theorem small14 (A0 A1 A2 A3 A4:Option Addr) (n0 n1 n2 n3 n4 c0 c1 c2 c3 c4:Nat) (sq:Int) (b:Bool) (w:World) (hb:b = true↔Small14 n0 n1 n2 n3 n4) :
  Calls Tryz.prog 5 #[.agg #[.slice A0 n0 c0,.slice A1 n1 c1,.slice A2 n2 c2,.slice A3 n3 c3,.slice A4 n4 c4,.int .i64 sq]] w fun e w' => e = .returned (.bool b)/\Below w.heap.size w w':=by
 have hk:=Blk.new w 28 #[.slice A0 n0 c0,.slice A1 n1 c1,.slice A2 n2 c2,.slice A3 n3 c3,.slice A4 n4 c4,.int .i64 sq];obtain ⟨q0,q1,q2,q3,q4⟩:=ce5 hk;have hb1:=b1' w (.cells #[.slice A0 n0 c0,.slice A1 n1 c1,.slice A2 n2 c2,.slice A3 n3 c3,.slice A4 n4 c4,.int .i64 sq] 28);clear hk;by_cases e0:n0<=40
 case neg =>
  obtain rfl:b = false:=bool14_of hb (fun h => e0 h.1);have f0:¬ (n0:Int)<=40:=by omega
  have g0:decide ((n0:Int)<=40) = false:=decide_eq_false f0;clear hb e0;go_enter Tryz.func5,Tryz.ntmps5;go_wp2_with fail;go_ret;exact ⟨rfl,hb1⟩
 have f0:(n0:Int)<=40:=by omega
 by_cases e1:n1<=200
 case neg =>
  obtain rfl:b = false:=bool14_of hb (fun h => e1 h.2.1);have f1:¬ (n1:Int)<=200:=by omega
  have g1:decide ((n1:Int)<=200) = false:=decide_eq_false f1;clear hb e1;go_enter Tryz.func5,Tryz.ntmps5;go_wp2_with fail;go_ret;exact ⟨rfl,hb1⟩
 have f1:(n1:Int)<=200:=by omega
 by_cases e2:n2<=80
 case neg =>
  obtain rfl:b = false:=bool14_of hb (fun h => e2 h.2.2.1);have f2:¬ (n2:Int)<=80:=by omega
  have g2:decide ((n2:Int)<=80) = false:=decide_eq_false f2;clear hb e2;go_enter Tryz.func5,Tryz.ntmps5;go_wp2_with fail;go_ret;exact ⟨rfl,hb1⟩
 have f2:(n2:Int)<=80:=by omega
 by_cases e3:n3<=40
 case neg =>
  obtain rfl:b = false:=bool14_of hb (fun h => e3 h.2.2.2.1);have f3:¬ (n3:Int)<=40:=by omega
  have g3:decide ((n3:Int)<=40) = false:=decide_eq_false f3;clear hb e3;go_enter Tryz.func5,Tryz.ntmps5;go_wp2_with fail;go_ret;exact ⟨rfl,hb1⟩
 have f3:(n3:Int)<=40:=by omega
 by_cases e4:n4<=100
 case neg =>
  obtain rfl:b = false:=bool14_of hb (fun h => e4 h.2.2.2.2);have f4:¬ (n4:Int)<=100:=by omega
  have g4:decide ((n4:Int)<=100) = false:=decide_eq_false f4;clear hb e4;go_enter Tryz.func5,Tryz.ntmps5;go_wp2_with fail;go_ret;exact ⟨rfl,hb1⟩
 have f4:(n4:Int)<=100:=by omega
 obtain rfl:b = true:=hb.2 ⟨e0,e1,e2,e3,e4⟩;clear hb e0 e1 e2 e3 e4;go_enter Tryz.func5,Tryz.ntmps5;go_wp2_with fail;go_ret;exact ⟨rfl,hb1⟩
theorem rCoin14 (v:Value) (S:Sv14) (i:Int) (b:Bool) (w:World) (h:St14 w v S) (hb:us14 usC S.C i = b) :
  Calls Tryz.prog 44 #[v,.int .i64 i] w fun e w' => e = .returned (.bool b)/\Below w.heap.size w w':=by
 obtain ⟨A0,A1,A2,A3,A4,n0,n1,n2,n3,n4,c0,c1,c2,c3,c4,sq,rfl,hs⟩:=h;have hb1:=b1' w (.cells #[.slice A0 n0 c0,.slice A1 n1 c1,.slice A2 n2 c2,.slice A3 n3 c3,.slice A4 n4 c4,.int .i64 sq] 28);have hk1:=Blk.new w 28 #[.slice A0 n0 c0,.slice A1 n1 c1,.slice A2 n2 c2,.slice A3 n3 c3,.slice A4 n4 c4,.int .i64 sq];have hs1:=hs.step hb1
 obtain ⟨w1,hw1⟩:=exq (w.alloc (.cells #[.slice A0 n0 c0,.slice A1 n1 c1,.slice A2 n2 c2,.slice A3 n3 c3,.slice A4 n4 c4,.int .i64 sq] 28));rw [hw1] at hb1 hk1 hs1;have q0:=hk1.cell 0;by_cases hin:0<=i/\i < (n0:Int)
 ·
  obtain ⟨k,rfl⟩:∃ k:Nat,i = (k:Int):=⟨i.toNat,by omega⟩
  obtain ⟨a,o,hA,hab,hq⟩:=Lq.at_ len14C (by omega) hs1.r0 (show k < S.C.length by rw [hs1.l0]; omega);subst hA;rw [us14_nat] at hb;obtain ⟨x,hx⟩:=exq (gt14 S.C k);rw [hx] at hq hb;obtain ⟨xu,hxe⟩:∃ z0,z0 = x:=⟨_,rfl⟩; subst hxe;have p0:w1.cell? ⟨a,o + k,none⟩ = some (.bool xu):=by have h:=hq 0 _ rfl; rwa [Nat.mul_one] at h
  have i0:(0:Int)<=(k:Int):=by omega
  have i1:(k:Int) < (n0:Int):=by omega
  have HU:Hid (b = xu):=qz hb.symm;clear hb hq hx hin hs hs1 hk1;go_enter Tryz.func44,Tryz.ntmps44;go_wp2_with fail;go_ret;exact ⟨by rw [HU.out]; rfl,hb1⟩
 ·
  have HF:Hid (b = false):=qz (by rw [<- hb]; exact us14_off def14C (by rw [hs1.l0]; exact hin));clear hb hs hs1 hk1;by_cases h0:0<=i
  ·
   have h1:¬ i < (n0:Int):=by omega
   have h2:decide (i < (n0:Int)) = false:=decide_eq_false h1;clear hin;go_enter Tryz.func44,Tryz.ntmps44;go_wp2_with fail;go_ret;exact ⟨by rw [HF.out]; rfl,hb1⟩
  ·
   clear hin;go_enter Tryz.func44,Tryz.ntmps44;go_wp2_with fail;go_ret;exact ⟨by rw [HF.out]; rfl,hb1⟩
theorem rThread14 (v:Value) (S:Sv14) (i:Int) (b:Bool) (w:World) (h:St14 w v S) (hb:us14 usH S.H i = b) :
  Calls Tryz.prog 43 #[v,.int .i64 i] w fun e w' => e = .returned (.bool b)/\Below w.heap.size w w':=by
 obtain ⟨A0,A1,A2,A3,A4,n0,n1,n2,n3,n4,c0,c1,c2,c3,c4,sq,rfl,hs⟩:=h;have hb1:=b1' w (.cells #[.slice A0 n0 c0,.slice A1 n1 c1,.slice A2 n2 c2,.slice A3 n3 c3,.slice A4 n4 c4,.int .i64 sq] 28);have hk1:=Blk.new w 28 #[.slice A0 n0 c0,.slice A1 n1 c1,.slice A2 n2 c2,.slice A3 n3 c3,.slice A4 n4 c4,.int .i64 sq];have hs1:=hs.step hb1
 obtain ⟨w1,hw1⟩:=exq (w.alloc (.cells #[.slice A0 n0 c0,.slice A1 n1 c1,.slice A2 n2 c2,.slice A3 n3 c3,.slice A4 n4 c4,.int .i64 sq] 28));rw [hw1] at hb1 hk1 hs1;have q2:=hk1.cell 2;by_cases hin:0<=i/\i < (n2:Int)
 ·
  obtain ⟨k,rfl⟩:∃ k:Nat,i = (k:Int):=⟨i.toNat,by omega⟩
  obtain ⟨a,o,hA,hab,hq⟩:=Lq.at_ len14H (by omega) hs1.r2 (show k < S.H.length by rw [hs1.l2]; omega);subst hA;rw [us14_nat] at hb;obtain ⟨x,hx⟩:=exq (gt14 S.H k);rw [hx] at hq hb;obtain ⟨xz,xf,xc,xq,xu⟩:=x;have p0:w1.cell? ⟨a,o + k * 5,none⟩ = some (.int .i64 xz):=hq 0 _ rfl;have i0:(0:Int)<=(k:Int):=by omega
  have i1:(k:Int) < (n2:Int):=by omega
  have HU:Hid (b = (xz != 0)):=qz (by rw [<- hb]; by_cases h:xz = 0 <;> simp [usH,h]);clear hb hq hx hin hs hs1 hk1;go_enter Tryz.func43,Tryz.ntmps43;go_wp2_with fail;go_ret;exact ⟨by rw [HU.out]; rfl,hb1⟩
 ·
  have HF:Hid (b = false):=qz (by rw [<- hb]; exact us14_off def14H (by rw [hs1.l2]; exact hin));clear hb hs hs1 hk1;by_cases h0:0<=i
  ·
   have h1:¬ i < (n2:Int):=by omega
   have h2:decide (i < (n2:Int)) = false:=decide_eq_false h1;clear hin;go_enter Tryz.func43,Tryz.ntmps43;go_wp2_with fail;go_ret;exact ⟨by rw [HF.out]; rfl,hb1⟩
  ·
   clear hin;go_enter Tryz.func43,Tryz.ntmps43;go_wp2_with fail;go_ret;exact ⟨by rw [HF.out]; rfl,hb1⟩
theorem rLock14 (v:Value) (S:Sv14) (i:Int) (b:Bool) (w:World) (h:St14 w v S) (hb:us14 usL S.L i = b) :
  Calls Tryz.prog 45 #[v,.int .i64 i] w fun e w' => e = .returned (.bool b)/\Below w.heap.size w w':=by
 obtain ⟨A0,A1,A2,A3,A4,n0,n1,n2,n3,n4,c0,c1,c2,c3,c4,sq,rfl,hs⟩:=h;have hb1:=b1' w (.cells #[.slice A0 n0 c0,.slice A1 n1 c1,.slice A2 n2 c2,.slice A3 n3 c3,.slice A4 n4 c4,.int .i64 sq] 28);have hk1:=Blk.new w 28 #[.slice A0 n0 c0,.slice A1 n1 c1,.slice A2 n2 c2,.slice A3 n3 c3,.slice A4 n4 c4,.int .i64 sq];have hs1:=hs.step hb1
 obtain ⟨w1,hw1⟩:=exq (w.alloc (.cells #[.slice A0 n0 c0,.slice A1 n1 c1,.slice A2 n2 c2,.slice A3 n3 c3,.slice A4 n4 c4,.int .i64 sq] 28));rw [hw1] at hb1 hk1 hs1;have q3:=hk1.cell 3;by_cases hin:0<=i/\i < (n3:Int)
 ·
  obtain ⟨k,rfl⟩:∃ k:Nat,i = (k:Int):=⟨i.toNat,by omega⟩
  obtain ⟨a,o,hA,hab,hq⟩:=Lq.at_ len14L (by omega) hs1.r3 (show k < S.L.length by rw [hs1.l3]; omega);subst hA;rw [us14_nat] at hb;obtain ⟨x,hx⟩:=exq (gt14 S.L k);rw [hx] at hq hb;obtain ⟨xu,xh⟩:=x;have p0:w1.cell? ⟨a,o + k * 2,none⟩ = some (.bool xu):=hq 0 _ rfl;have i0:(0:Int)<=(k:Int):=by omega
  have i1:(k:Int) < (n3:Int):=by omega
  have HU:Hid (b = xu):=qz hb.symm;clear hb hq hx hin hs hs1 hk1;go_enter Tryz.func45,Tryz.ntmps45;go_wp2_with fail;go_ret;exact ⟨by rw [HU.out]; rfl,hb1⟩
 ·
  have HF:Hid (b = false):=qz (by rw [<- hb]; exact us14_off def14L (by rw [hs1.l3]; exact hin));clear hb hs hs1 hk1;by_cases h0:0<=i
  ·
   have h1:¬ i < (n3:Int):=by omega
   have h2:decide (i < (n3:Int)) = false:=decide_eq_false h1;clear hin;go_enter Tryz.func45,Tryz.ntmps45;go_wp2_with fail;go_ret;exact ⟨by rw [HF.out]; rfl,hb1⟩
  ·
   clear hin;go_enter Tryz.func45,Tryz.ntmps45;go_wp2_with fail;go_ret;exact ⟨by rw [HF.out]; rfl,hb1⟩
theorem ex_bool14 (P:Prop):∃ b:Bool,(b = true↔P):=by
 by_cases h:P
 · exact ⟨true,by simp [h]⟩
 · exact ⟨false,by simp [h]⟩
theorem own14_blk {w:World} {b1:Nat} {e1 t:TypeId} {k1:Nat} {v1:Value} {n1 g:Nat} {xs1:List Value} {cs:Array Value} (h1:w.ownsRow b1 e1 k1 v1 n1 xs1) (hb:Blk w g t cs) (hne:t≠e1):some g≠v1.ownBlock:=fun e' => by
 rcases h1.2 with ⟨rfl,_⟩ | ⟨g',cap,cur,rfl,_,hh,_⟩
 · cases e'
 ·
  injection e' with e'
  subst e';rw [show w.heap[g]? = _ from hb] at hh;cases hh;exact hne rfl
def Target14 (S:Sv14) (t:Tk14):Prop:=t.k = 0/\t.t = 0\/t.k = 1/\us14 usH S.H t.t = true\/t.k = 2/\t.t≠0/\us14 usC S.C t.t = true
def Ticket14 (S:Sv14) (t:Tk14):Prop:=us14 usC S.C t.c = true/\1<=t.a/\t.a<=1048576/\Target14 S t
def For14 (S:Sv14) (i:Nat) (t:Th14):Prop:=t.s = 4/\us14 usH S.H t.f = true/\t.f≠(i:Int)\/t.s = 6/\us14 usL S.L t.f = true\/(t.s = 1\/t.s = 2\/t.s = 3\/t.s = 5)/\t.f = -1
def Client14 (S:Sv14) (i:Nat) (t:Th14):Prop:=t.c = -1\/t.s≠5/\(at14 usH S.H t.c).s = 4/\(at14 usH S.H t.c).f = (i:Int)
def Factor14 (q:Int) (t:Th14):Prop:=t.q = 1/\t.u = 1\/1<=t.u/\t.u < t.q/\t.q<=q
def Thrd14 (S:Sv14) (i:Nat) (t:Th14):Prop:=For14 S i t/\Client14 S i t/\Factor14 S.q t
def Waits14 (t:Th14) (l:Int):Prop:=t.s = 6/\t.f = l
instance (t:Th14) (l:Int):Decidable (Waits14 t l):=by unfold Waits14; infer_instance
def Holder14 (S:Sv14) (i:Nat) (l:Lk14):Prop:=l.h = -1/\(∀ j,j < S.H.length->¬ Waits14 (gt14 S.H j) (i:Int))\/l.h≠-1/\us14 usH S.H l.h = true/\¬ Waits14 (at14 usH S.H l.h) (i:Int)
def Queues14 (S:Sv14) (i:Nat) (t:Th14):Prop:=t.s = 6\/t.s = 4/\(at14 usH S.H t.f).c≠(i:Int)
def Tidies14 (S:Sv14):Prop:=Tidy14 usC S.C 16/\Tidy14 usT S.T 96/\Tidy14 usH S.H 32/\Tidy14 usL S.L 8
def Tickets14 (S:Sv14):Prop:=∀ j,j < S.T.length->usT (gt14 S.T j) = true->Ticket14 S (gt14 S.T j)
def runs14 (xs:List Th14):Nat->Nat
 | 0 => 0
 | k + 1 => runs14 xs k + if (gt14 xs k).s = 3 then 1 else 0
theorem runs14_le (xs:List Th14) (k:Nat):runs14 xs k<=k:=by
 induction k with
 | zero => exact Nat.le_refl _
 | succ k ih => rw [runs14]; split <;> omega
def Threads14 (S:Sv14):Prop:=(∀ j,j < S.H.length->usH (gt14 S.H j) = true->Thrd14 S j (gt14 S.H j))/\runs14 S.H S.H.length<=1
def Locks14 (S:Sv14):Prop:=∀ j,j < S.L.length->usL (gt14 S.L j) = true->Holder14 S j (gt14 S.L j)
structure Bx14 (w:World) (S:Sv14) (A0 A1 A2 A3 A4:Option Addr) (n0 n1 n2 n3 n4 c0 c1 c2 c3 c4:Nat) (sq:Int) (W:World):Prop where
 b:Below w.heap.size w W
 x:Blk W w.heap.size 28 #[.slice A0 n0 c0,.slice A1 n1 c1,.slice A2 n2 c2,.slice A3 n3 c3,.slice A4 n4 c4,.int .i64 sq]
 s:SA14 W S A0 A1 A2 A3 A4 n0 n1 n2 n3 n4 c0 c1 c2 c3 c4 sq
theorem Bx14.step {w:World} {S:Sv14} {A0 A1 A2 A3 A4:Option Addr} {n0 n1 n2 n3 n4 c0 c1 c2 c3 c4:Nat} {sq:Int} {W W':World} (h:Bx14 w S A0 A1 A2 A3 A4 n0 n1 n2 n3 n4 c0 c1 c2 c3 c4 sq W) (hb:Below W.heap.size W W'):Bx14 w S A0 A1 A2 A3 A4 n0 n1 n2 n3 n4 c0 c1 c2 c3 c4 sq W' :=
 ⟨h.b.trans (hb.mono h.b.size),h.x.below hb h.x.lt,h.s.step hb⟩
theorem Bx14.st {w:World} {S:Sv14} {A0 A1 A2 A3 A4:Option Addr} {n0 n1 n2 n3 n4 c0 c1 c2 c3 c4:Nat} {sq:Int} {W:World} (h:Bx14 w S A0 A1 A2 A3 A4 n0 n1 n2 n3 n4 c0 c1 c2 c3 c4 sq W):St14 W (.agg #[.slice A0 n0 c0,.slice A1 n1 c1,.slice A2 n2 c2,.slice A3 n3 c3,.slice A4 n4 c4,.int .i64 sq]) S:=⟨A0,A1,A2,A3,A4,n0,n1,n2,n3,n4,c0,c1,c2,c3,c4,sq,rfl,h.s⟩
theorem Bx14.new {w:World} {S:Sv14} {A0 A1 A2 A3 A4:Option Addr} {n0 n1 n2 n3 n4 c0 c1 c2 c3 c4:Nat} {sq:Int} (h:SA14 w S A0 A1 A2 A3 A4 n0 n1 n2 n3 n4 c0 c1 c2 c3 c4 sq):Bx14 w S A0 A1 A2 A3 A4 n0 n1 n2 n3 n4 c0 c1 c2 c3 c4 sq (w.alloc (.cells #[.slice A0 n0 c0,.slice A1 n1 c1,.slice A2 n2 c2,.slice A3 n3 c3,.slice A4 n4 c4,.int .i64 sq] 28)):=⟨b1' w _,Blk.new w _ _,h.step (b1' w _)⟩
def Fall (xs:List Nat):Prop:=xs.Pairwise (fun a b => b < a)
structure Plc (xs:List Nat) (x p:Nat):Prop where
 le:p<=xs.length
 low:∀ t,t < p->x < nth xs t
 high:∀ t,p<=t->t < xs.length->nth xs t < x
theorem plc_ex {xs:List Nat} (h:Fall xs) {x:Nat} (hx:x ∉ xs):∃ p,Plc xs x p:=by
 induction xs with
 | nil => exact ⟨0,Nat.le_refl _,fun t h => by omega,fun t _ h => by simp at h⟩
 | cons a r ih =>
  have h1:Fall r:=(List.pairwise_cons.1 h).2;have h2:=(List.pairwise_cons.1 h).1;obtain ⟨p,p1,p2,p3⟩:=ih h1 (fun e => hx (by simp [e]));rcases Nat.lt_trichotomy x a with h3 | h3 | h3
  ·
   refine ⟨p + 1,by simp; exact p1,fun t ht => ?_,fun t h4 h5 => ?_⟩
   ·
    cases t with
    | zero => rw [nth_cons0]; exact h3
    | succ t => rw [nth_cons]; exact p2 t (by omega)
   ·
    cases t with
    | zero => omega
    | succ t => rw [nth_cons]; exact p3 t (by omega) (by simpa using h5)
  · exact absurd (by simp [h3]) hx
  ·
   refine ⟨0,Nat.zero_le _,fun t ht => by omega,fun t _ h5 => ?_⟩
   cases t with
   | zero => rw [nth_cons0]; exact h3
   | succ t =>
    have h6:t < r.length:=by simpa using h5
    have h7:=h2 _ (List.getElem_mem h6);rw [nth_cons,nth_in h6];omega
theorem Plc.fall {xs:List Nat} {x p:Nat} (h:Plc xs x p) (hf:Fall xs):Fall (ins13 xs p x):=by
 unfold Fall ins13;rw [List.pairwise_append];refine ⟨List.Pairwise.sublist (List.take_sublist _ _) hf,?_,?_⟩
 ·
  rw [List.pairwise_cons];refine ⟨fun y hy => ?_,List.Pairwise.sublist (List.drop_sublist _ _) hf⟩;obtain ⟨t,ht,rfl⟩:=List.getElem_of_mem hy;rw [List.length_drop] at ht;rw [List.getElem_drop,<- nth_in];exact h.high _ (by omega) (by omega)
 ·
  intro a ha b hb;obtain ⟨t,ht,rfl⟩:=List.getElem_of_mem ha;rw [List.length_take] at ht;have h1:=h.low t (by omega);rw [List.getElem_take,<- nth_in];rw [List.mem_cons] at hb;rcases hb with rfl | hb
  · exact h1
  ·
   obtain ⟨s,hs,rfl⟩:=List.getElem_of_mem hb;rw [List.length_drop] at hs;rw [List.getElem_drop,<- nth_in];have h2:=h.high (p + s) (by omega) (by omega);omega
theorem ins13_mem {xs:List Nat} {x p j:Nat}:j∈ins13 xs p x↔j = x\/j∈xs:=by
 unfold ins13;rw [List.mem_append,List.mem_cons];have h:j∈xs↔j∈xs.take p\/j∈xs.drop p:=by rw [<- List.mem_append,List.take_append_drop]
 rw [h];constructor
 ·
  rintro (h | h | h)
  · exact .inr (.inl h)
  · exact .inl h
  · exact .inr (.inr h)
 ·
  rintro (h | h | h)
  · exact .inr (.inl h)
  · exact .inl h
  · exact .inr (.inr h)
theorem cmp13_any (a b:Nat) (w:World) (ha:a < 1000000) (hb:b < 1000000) :
  Calls Tryz.prog 149 #[.int .i64 (a:Int),.int .i64 (b:Int)] w fun e w' => e = .returned (.int .i64 ((b:Int) - (a:Int)))/\w' = w:=by
 have hw:IntKind.i64.wrap ((b:Int) - (a:Int)) = (b:Int) - (a:Int):=by rw [IntKind.wrap_i64]; omega
 go_enter Tryz.func149,Tryz.ntmps149;go_wp2_with fail;go_ret;exact ⟨rfl,rfl⟩
theorem bsf13_any {xs:List Nat} {x p n c:Nat} {A:Option Addr} (w:World) (hl:xs.length = n) (hr:Rd w w.heap.size A xs) (hp:Plc xs x p) (hn:n<=1000000) (hx:x < 1000000) (hxs:∀ y,y∈xs->y < 1000000) :
  Calls Tryz.prog 148 #[.slice A n c,.int .i64 (x:Int),.func (.func 149) #[] #[]] w fun e w' => e = .returned (.tuple #[.int .i64 (p:Int),.bool false])/\w' = w:=by
 have hpn:p<=n:=by have:=hp.le; omega
 have HL:=qz hl;have HR:=qz hr;have HP:=qz hp;have HX:=qz hxs;clear hl hr hp hxs;go_enter Tryz.func148,Tryz.ntmps148;go_wp2_with fail;go_loopw [9,10] (fun s9 s10 wr => wr = w/\∃ lo hi:Nat,s9 = .int .i64 (lo:Int)/\s10 = .int .i64 (hi:Int)/\lo<=p/\p<=hi/\hi<=n) (fun s9 s10 _ => (intOf s10).toNat - (intOf s9).toNat)
 case atStart => exact ⟨by first | trivial | rfl,0,n,rfl,rfl,by omega,hpn,Nat.le_refl _⟩
 case round =>
  obtain ⟨rfl,lo,hi,rfl,rfl,h1,h2,h3⟩:=hrel;by_cases hlt:lo < hi
  ·
   obtain ⟨m,hm⟩:=exq ((lo + hi) / 2);obtain ⟨b,o,hA,_,ca⟩:=HR.out.at_ (show m < xs.length by have:=HL.out; omega);subst hA;obtain ⟨y,hy⟩:=exq (nth xs m)
   have hyb:y < 1000000:=by
    have hml:m < xs.length:=by have:=HL.out; omega
    rw [<- hy,nth_in hml];exact HX.out _ (List.getElem_mem hml)
   rw [hy] at ca;have HC:=qz (cmp13_any y x wr hyb hx);have hdiv:((lo:Int) + (hi:Int)) / 2 = (m:Int):=by omega
   have i0:(0:Int)<=(m:Int):=by omega
   have i1:(m:Int) < (n:Int):=by omega
   have hw0:IntKind.i64.wrap ((lo:Int) + (hi:Int)) = (lo:Int) + (hi:Int):=by rw [IntKind.wrap_i64]; omega
   have hw1:IntKind.u64.wrap ((lo:Int) + (hi:Int)) = (lo:Int) + (hi:Int):=by rw [IntKind.wrap_u64]; omega
   have hw2:IntKind.i64.wrap (m:Int) = (m:Int):=by rw [IntKind.wrap_i64]; omega
   have hw3:IntKind.u64.wrap (m:Int) = (m:Int):=by rw [IntKind.wrap_u64]; omega
   by_cases hmp:m < p
   ·
    have hyx:x < y:=by rw [<- hy]; exact HP.out.low m hmp
    have hneg:(x:Int) - (y:Int) < 0:=by omega
    clear hy hm;go_wp2_with fail;refine HC.out.mono ?_;rintro e w3 ⟨rfl,rfl⟩;go_wp2_with fail;go_roundw
    case rel => exact ⟨by first | trivial | rfl,m + 1,hi,by go_num,rfl,by omega,h2,h3⟩
    case measure => simp [intOf]; omega
   ·
    have hyx:y < x:=by rw [<- hy]; exact HP.out.high m (by omega) (by have:=HL.out; omega)
    have hneg:¬ (x:Int) - (y:Int) < 0:=by omega
    clear hy;go_wp2_with fail;refine HC.out.mono ?_;rintro e w3 ⟨rfl,rfl⟩;go_wp2_with fail;go_roundw
    case rel => exact ⟨by first | trivial | rfl,lo,m,rfl,rfl,h1,by omega,by omega⟩
    case measure => simp [intOf]; omega
  ·
   obtain rfl:lo = p:=by omega
   obtain rfl:hi = lo:=by omega
   by_cases hpn2:hi < n
   ·
    obtain ⟨b,o,hA,_,ca⟩:=HR.out.at_ (show hi < xs.length by have:=HL.out; omega);subst hA;obtain ⟨y,hy⟩:=exq (nth xs hi)
    have hyb:y < 1000000:=by
     have hml:hi < xs.length:=by have:=HL.out; omega
     rw [<- hy,nth_in hml];exact HX.out _ (List.getElem_mem hml)
    have hyx:y < x:=by rw [<- hy]; exact HP.out.high hi (by omega) (by have:=HL.out; omega)
    rw [hy] at ca;have HC:=qz (cmp13_any y x wr hyb hx);have hz:¬ (x:Int) - (y:Int) = 0:=by omega
    have i0:(0:Int)<=(hi:Int):=by omega
    have i1:(hi:Int) < (n:Int):=by omega
    clear hy;go_wp2_with fail;refine HC.out.mono ?_;rintro e w3 ⟨rfl,rfl⟩;go_wp2_with fail;go_ret2;exact ⟨by first | rfl | simp [hz],rfl⟩
   ·
    have i1:¬ (hi:Int) < (n:Int):=by omega
    go_wp2_with fail;go_ret2;exact ⟨rfl,rfl⟩
structure Bk13 (L g:Nat) (row:Option Nat) (w w':World):Prop where
 below:Below L w w'
 size:w.heap.size<=w'.heap.size
 keep:∀ b,b < w.heap.size->b≠g->some b≠row->w'.heap[b]? = w.heap[b]?
theorem Bk13.blk {L g:Nat} {row:Option Nat} {w w':World} (h:Bk13 L g row w w') {b:Nat} {t:TypeId} {cs:Array Value} (hb:Blk w b t cs) (h1:b≠g) (h2:some b≠row):Blk w' b t cs:=(h.keep b hb.lt h1 h2).trans hb
theorem Bk13.own {L g:Nat} {row:Option Nat} {w w':World} (h:Bk13 L g row w w') {base n:Nat} {e:TypeId} {v:Value} {xs:List Value} (ho:w.ownsRow base e 1 v n xs) (h1:v.ownBlock≠some g) (h2:∀ r,v.ownBlock = some r->row≠some r):w'.ownsRow base e 1 v n xs:=by
 have hlt:=ho.lt;obtain ⟨k1,k2⟩:=ho;refine ⟨k1,?_⟩;rcases k2 with k2 | ⟨b,cap,cur,rfl,hb,hh,r⟩
 · exact .inl k2
 ·
  refine .inr ⟨b,cap,cur,rfl,hb,?_,r⟩;rw [h.keep b (hlt b rfl).2 (fun e => h1 (by rw [<- e]; rfl)) (fun e => h2 b rfl e.symm)];exact hh
def Pt13 (w:World) (L g:Nat) (v:Value) (ys:List Nat) (e:Ending) (w':World):Prop :=
 e = .returned (.tuple #[])/\∃ A' c',Blk w' g 26 #[.slice A' ys.length c']/\w'.ownsRow L 3 1 (.slice A' ys.length c') ys.length (ints ys)/\(∀ r,(Value.slice A' ys.length c').ownBlock = some r->v.ownBlock = some r\/w.heap.size<=r)/\Bk13 L g v.ownBlock w w'
theorem put13_any {L g k c x p:Nat} {A:Option Addr} {xs:List Nat} (w:World) (hv:Blk w g 26 #[.slice A k c]) (ho:w.ownsRow L 3 1 (.slice A k c) k (ints xs)) (hl:xs.length = k) (hp:Plc xs x p) (hL:L<=w.heap.size) (hLg:L<=g)
  (hk:k<=100000) (hx:x < 1000000) (hxs:∀ y,y∈xs->y < 1000000) :
  Calls Tryz.prog 136 #[.pointer (some ⟨g,0,none⟩),.int .i64 (x:Int)] w (Pt13 w L g (.slice A k c) (ins13 xs p x)):=by
 have hpk:p<=k:=by have:=hp.le; omega
 have HPT:Hid (Pt13 w L g (.slice A k c) (ins13 xs p x) = fun e w' => e = .returned (.tuple #[])/\∃ A' c',Blk w' g 26 #[.slice A' (ins13 xs p x).length c']/\w'.ownsRow L 3 1 (.slice A' (ins13 xs p x).length c') (ins13 xs p x).length (ints (ins13 xs p x))/\(∀ r,(Value.slice A' (ins13 xs p x).length c').ownBlock = some r->(Value.slice A k c).ownBlock = some r\/w.heap.size<=r)/\Bk13 L g (Value.slice A k c).ownBlock w w'):=qz rfl
 have c0:=hv.cell 0;have HB:=qz (bsf13_any (c:=c) w hl (Rd.of_own ho) hp (by omega) hx hxs);have hba:=b1' w (.cells #[.int .i64 (x:Int)] 3);have HI:=qz (insert13_any (w.alloc (.cells #[.int .i64 (x:Int)] 3)) hl (own7_keep ho hba) hpk (Blk.new w _ _) (fun e => by have:=(ho.lt _ e).2; omega) (by omega) (by simp; omega));have hv1:=hv.below hba hv.lt
 have d0:=hv1.cell 0;have HV:=qz hv1;have HO:=qz ho;have HVW:=qz hv;have HBA:=qz hba;clear hv hv1 ho hl hp hxs hba;go_enter Tryz.func136,Tryz.ntmps136;go_wp2_with fail;refine HB.out.mono ?_;rintro e w1 ⟨rfl,rfl⟩;clear HB;go_wp2_with fail;refine HI.out.mono ?_;rintro e w2 ⟨A',c',rfl,h2,h3,h4⟩
 have hgne:(Value.slice A k c).ownBlock≠some g:=own7_ne HO.out HVW.out (by decide);have hv2:=HV.out.grown h3 (fun e => hgne e.symm);have e0:=hv2.cell 0;have f0:=hv2.frozen 0;have H2:=qz h2;have H3:=qz h3;have H4:=qz h4;have HV2:=qz hv2;have HN:=qz hgne;clear h2 h3 h4 hv2 hgne HI;go_wp2_with fail
 go_end0
 rw [HPT.out];have hs:(w1.alloc (.cells #[.int .i64 (x:Int)] 3)).heap.size = w1.heap.size + 1:=by simp
 have hbel:Below L w1 w2:=(HBA.out.mono hL).grown H3.out (by omega) (fun r hr => (HO.out.lt r hr).1);refine ⟨rfl,A',c',by simpa using HV2.out.set_ 0 _,own7_far H2.out (grownBy_setCell' w2 g _) (own7_ne H2.out HV2.out (by decide)),fun r hr => ?_,⟨hbel.setCell hLg _,?_,fun b hb h5 h6 => ?_⟩⟩
 ·
  rcases H4.out r hr with h | h
  · exact .inl h
  · exact .inr (by omega)
 ·
  have:=hbel.size;simpa [World.setCell] using this
 · exact (Below.heap_setCell w2 ⟨g,0,none⟩ _ b h5).trans ((H3.out.block b (by omega) h6).trans (HBA.out.block b hb))
end
section
open Go.RowKit
section
variable {P:Program} {md:Region.Mode} {ops:Array Oper} {Q:Exit->Act->World->Prop} {S:World->Prop} {oi:Oper} {fuel:Nat} {listed:Array Bool} {a:Act} {w:World}
theorem sk (i:Nat) (h:wpAnyH P md ops Q S fuel (listed.setIfInBounds i true) (a.put oi.dst undef) w) (hi:ops.toList[i]? = some oi:=by rfl)
  (hs:Region.noSelect ops = true:=by kernel_rfl) (hf:Region.free md ops listed i = true:=by kernel_rfl) (hr:(Region.ready md ops listed).contains i = true:=by kernel_rfl)
  (hQ:∀ c a w,Q (.panic c) (a.put oi.dst undef) w->Q (.panic c) a w:=by exact fun _ _ _ h => h) (hw:Region.wanted oi (yielded ops a.tmps) = false:=by rfl) (hS:S w:=by assumption):wpAnyH P md ops Q S (fuel + 1) listed a w :=
 take_skip (op_of hi) hs hf hr hQ hw hS h
theorem tk (i:Nat) {v:Value} (hy:∀ w,S w->(execOp a.eval oi).run P w = .ok (.value v) w) (h:wpAnyH P md ops Q S fuel (listed.setIfInBounds i true) (a.put oi.dst v) w) (hi:ops.toList[i]? = some oi:=by rfl)
  (hs:Region.noSelect ops = true:=by kernel_rfl) (hf:Region.free md ops listed i = true:=by kernel_rfl) (hr:(Region.ready md ops listed).contains i = true:=by kernel_rfl)
  (hQ:∀ c a w,Q (.panic c) (a.put oi.dst v) w->Q (.panic c) a w:=by exact fun _ _ _ h => h) (hw:Region.wanted oi (yielded ops a.tmps) = true:=by rfl) (hS:S w:=by assumption):wpAnyH P md ops Q S (fuel + 1) listed a w :=
 wpAnyH_take (op_of hi) hs hf hr hQ (Or.inl ⟨hw,hy⟩) hS h
theorem tkp (hP:∀ c a d v w,Q (.panic c) (Act.put a (some d) v) w->Q (.panic c) a w) (i:Nat) {v:Value} {d:Nat} (hy:∀ w,S w->(execOp a.eval oi).run P w = .ok (.value v) w) (h:wpAnyH P md ops Q S fuel (listed.setIfInBounds i true) (a.put oi.dst v) w) (hi:ops.toList[i]? = some oi:=by rfl)
  (hs:Region.noSelect ops = true:=by kernel_rfl) (hf:Region.free md ops listed i = true:=by kernel_rfl) (hr:(Region.ready md ops listed).contains i = true:=by kernel_rfl)
  (hd:oi.dst = some d:=by rfl) (hw:Region.wanted oi (yielded ops a.tmps) = true:=by rfl) (hS:S w:=by assumption):wpAnyH P md ops Q S (fuel + 1) listed a w :=
 wpAnyH_take (op_of hi) hs hf hr (by rw [hd]; exact fun _ _ _ => hP _ _ _ _ _) (Or.inl ⟨hw,hy⟩) hS h
theorem rdy (i:Nat) (hk:∀ K':Act->World->Prop,Shut (∀ a w,S w->(S w->wpAnyH P md ops Q S fuel (listed.setIfInBounds i true) a w)->K' a w)->if Region.wanted oi (yielded ops a.tmps) = true then Oper.wp P oi a w K' Q else K' (a.put oi.dst undef) w)
  (hi:ops.toList[i]? = some oi:=by rfl) (hr:Region.ready md ops listed = [i]:=by kernel_rfl):wpAnyH P md ops Q S (fuel + 1) listed a w :=
 wpAnyH_ready hr (by simp) (AllReadyH.cons (op_of hi) hk AllReadyH.nil)
theorem rc {i:Nat} {rs:List Nat} (hk:∀ K':Act->World->Prop,Shut (∀ a w,S w->(S w->wpAnyH P md ops Q S fuel (listed.setIfInBounds i true) a w)->K' a w)->if Region.wanted oi (yielded ops a.tmps) = true then Oper.wp P oi a w K' Q else K' (a.put oi.dst undef) w)
  (hs:AllReadyH P md ops Q S fuel listed a w rs) (hi:ops.toList[i]? = some oi:=by rfl):AllReadyH P md ops Q S fuel listed a w (i :: rs):=AllReadyH.cons (op_of hi) hk hs
theorem pt1 {α:Type} (l:List α) (i:Nat) (a:α):l.toArray.setIfInBounds i a = (l.set i a).toArray:=List.setIfInBounds_toArray ..
theorem pt2 {α:Type} (x:α) (l:List α) (a:α):(x :: l).set 0 a = a :: l:=rfl
theorem pt3 {α:Type} (x:α) (l:List α) (i:Nat) (a:α):(x :: l).set (i + 1) a = x :: l.set i a:=rfl
theorem memo {f:Nat} {l:Array Bool} (I:Act->(Act->World->Prop)->Prop) (f1:Nat) (l1:Array Bool) (h1:I a (fun a' w' => wpAnyH P md ops Q S f1 l1 a' w')) (h0:I a (fun a' w' => wpAnyH P md ops Q S f1 l1 a' w')->wpAnyH P md ops Q S f l a w):wpAnyH P md ops Q S f l a w:=h0 h1
end
section
variable {P:Program} {md:Region.Mode} {ops:Array Oper} {Q:Exit->Act->World->Prop} {S:World->Prop} {oi:Oper} {fuel:Nat} {listed l':Array Bool} {a a':Act} {w:World}
theorem tkq (i:Nat) {v:Value} (h:wpAnyH P md ops Q S fuel l' a' w) (hi:ops.toList[i]? = some oi:=by rfl) (hy:∀ w,S w->(execOp a.eval oi).run P w = .ok (.value v) w:=by (intro W hS; go_simp; try with_reducible rfl)) (hl:listed.setIfInBounds i true = l':=by ((try simp only [pt1,pt2,pt3]); rfl)) (ha:a.put oi.dst v = a':=by ((try simp only [Act.put,pt1,pt2,pt3]); rfl)) (hs:Region.noSelect ops = true:=by kernel_rfl) (hf:Region.free md ops listed i = true:=by kernel_rfl) (hr:(Region.ready md ops listed).contains i = true:=by kernel_rfl) (hQ:∀ c a w,Q (.panic c) (a.put oi.dst v) w->Q (.panic c) a w:=by exact fun _ _ _ h => h) (hw:Region.wanted oi (yielded ops a.tmps) = true:=by rfl) (hS:S w:=by assumption) : wpAnyH P md ops Q S (fuel + 1) listed a w:=by
 subst hl ha
 exact wpAnyH_take (op_of hi) hs hf hr hQ (Or.inl ⟨hw,hy⟩) hS h
theorem tkpq (hP:∀ c a d v w,Q (.panic c) (Act.put a (some d) v) w->Q (.panic c) a w) (i:Nat) {v:Value} {d:Nat} (h:wpAnyH P md ops Q S fuel l' a' w) (hi:ops.toList[i]? = some oi:=by rfl) (hy:∀ w,S w->(execOp a.eval oi).run P w = .ok (.value v) w:=by (intro W hS; go_simp; try with_reducible rfl)) (hl:listed.setIfInBounds i true = l':=by ((try simp only [pt1,pt2,pt3]); rfl)) (ha:a.put oi.dst v = a':=by ((try simp only [Act.put,pt1,pt2,pt3]); rfl)) (hs:Region.noSelect ops = true:=by kernel_rfl) (hf:Region.free md ops listed i = true:=by kernel_rfl) (hr:(Region.ready md ops listed).contains i = true:=by kernel_rfl) (hd:oi.dst = some d:=by rfl) (hw:Region.wanted oi (yielded ops a.tmps) = true:=by rfl) (hS:S w:=by assumption) : wpAnyH P md ops Q S (fuel + 1) listed a w:=by
 subst hl ha
 exact wpAnyH_take (op_of hi) hs hf hr (by rw [hd]; exact fun _ _ _ => hP _ _ _ _ _) (Or.inl ⟨hw,hy⟩) hS h
theorem koq {K':Act->World->Prop} (hK:Shut (∀ a w,S w->(S w->wpAnyH P md ops Q S fuel listed a w)->K' a w)) (hS:S w) (h:S w->wpAnyH P md ops Q S fuel l' a' w) (hl:listed = l':=by ((try simp only [pt1,pt2,pt3]); rfl)) (ha:a = a':=by ((try simp only [Act.put,pt1,pt2,pt3]); rfl)) : K' a w:=by
 subst hl ha
 exact hK.out _ _ hS h
end
end
section
open Go.RowKit
set_option maxRecDepth 100000
theorem blk_ne12 {w:World} {g g':Nat} {t t':TypeId} {cs cs':Array Value} (h:Blk w g t cs) (h':Blk w g' t' cs') (ht:t≠t'):g≠g':=by
 rintro rfl;unfold Blk at h h';rw [h] at h';injection h' with h'
 injection h' with _ h2 _
 exact ht h2
theorem own12_far {w w':World} {base:Nat} {e:TypeId} {v:Value} {n:Nat} {xs:List Value} {row:Option Nat} (h:w.ownsRow base e 1 v n xs) (hg:w.grownBy w' row) (hr:∀ r,row = some r->v.ownBlock≠some r):w'.ownsRow base e 1 v n xs:=by
 cases row with
 | none => exact own7_none h hg
 | some r => exact own7_far h hg (hr r rfl)
section
variable {W:World} {L g gh gc n t:Nat} {h c o:Nat->Nat} {Al:Option Addr} {kl cl:Nat} {Am:Option Addr} {km cm:Nat} {ls ms:List Nat}
end
theorem info_int12:(Tryz.prog.info? 3).map (fun i => (i.zero,i.size,i.bytes)) = some (some (.int .i64 0),1,8):=by kernel_rfl
theorem own12_some {w:World} {base:Nat} {e:TypeId} {A:Option Addr} {cc m:Nat} {vs:List Value} (h:w.ownsRow base e 1 (.slice A (m + 1) cc) (m + 1) vs):∃ r,A = some ⟨r,0,none⟩/\m + 1<=cc:=by
 rcases h.2 with ⟨h0,_⟩ | ⟨r,cap,cur,hv,_,_,hn,_⟩
 · cases h0
 ·
  injection hv with h1 h2 h3
  subst h3;exact ⟨r,h1,hn⟩
theorem own12_last {w:World} {base:Nat} {e:TypeId} {r cc m:Nat} {xs:List Nat} {a:Nat} (h:w.ownsRow base e 1 (.slice (some ⟨r,0,none⟩) (m + 1) cc) (m + 1) (ints (xs ++ [a]))) (hx:xs.length = m):w.cell? ⟨r,m,none⟩ = some (.int .i64 (a:Int)):=by
 have h1:=h.cells (g:=r) rfl m (.int .i64 (a:Int)) (by rw [ints_append,List.getElem?_append_right (by rw [ints_length]; omega),ints_length,hx,Nat.sub_self]; rfl);rw [Go.WideShapes.add_plain,Nat.zero_add] at h1;exact h1
section
variable {W:World} {L g gh gc n t:Nat} {h c o:Nat->Nat} {Al:Option Addr} {kl cl:Nat} {Am:Option Addr} {km cm:Nat} {ls ms:List Nat}
end
theorem rv12_one (w:World) (d:Nat) (t:TypeId):Rv (w.alloc (.cells #[.int .i64 (d:Int)] t)) (w.heap.size + 1) (some ⟨w.heap.size,0,none⟩) (ints [d]):=by
 intro _;refine ⟨w.heap.size,0,rfl,by omega,fun k v hk => ?_⟩
 match k,hk with
 | 0,hk =>
  obtain rfl:Value.int .i64 (d:Int) = v:=by simpa [ints] using hk
  exact cell_one_new w (.int .i64 (d:Int)) t 0 _ rfl
 | k + 1,hk => simp [ints] at hk
end
end Go.Proofs.YtkdmnlihpebbkaaGreat
