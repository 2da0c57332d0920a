/-
  SaidWorthKeeps, part 28 of 30: what the theorem worthKeeps_holds reaches.
-/
import Derived.Test.YtgopgbfgbddggaaGreatWK27
set_option linter.all false
namespace Go.Proofs.YtgopgbfgbddggaaGreat
open Go.RowKit
set_option maxRecDepth 100000
structure Be18 (w W:World):Prop where
 z:Below w.heap.size w W
theorem Be18.step {w W W':World} (h:Be18 w W) (hb:Below W.heap.size W W'):Be18 w W':=⟨h.z.trans (hb.mono h.z.size)⟩
theorem RetQ.q0 {w w':World} {n d:Nat} {e:Ending} (h:RetQ w n d e w'):RetQ0 w n d e w':=by
 obtain ⟨A1,n1,c1,A2,n2,c2,h1,h2,h3,h4⟩:=h
 exact ⟨A1,n1,c1,A2,n2,c2,h1,h2.more (Nat.zero_le _),h3.more (Nat.zero_le _),h4⟩
theorem ticketw18 (v:Value) (S:Sv14) (wC wT:Nat→Rat) (k:Nat) (w:World) (h:St14 w v S) (hf:Fine14 S) (hw:Wo18 S wC wT) (hk:k < S.T.length) :
  Calls Tryz.prog 12 #[v,.int .i64 (k:Int)] w (RetQ0 w (qr18 (wT k)).1 (qr18 (wT k)).2):=by
 cases hu:us14 usT S.T (k:Int) with
 | true => exact ticketw18_yes v S wC wT k w h hf hw hk hu
 | false =>
  have h0:wT k = 0:=hw.none (fun g => by
   have h1:=g.lt.2
   rw [us14_nat,usT] at hu
   rw [h1] at hu
   cases hu)
  rw [h0,qr18_zero]
  exact (ticketw18_no v S k w h hu).mono (fun e w' h => h.q0)
set_option maxHeartbeats 2000000 in
theorem share18l (c a k t:Int) (w:World):Calls Tryz.prog 30 #[.int .i64 c,.int .i64 a,.int .i64 k,.int .i64 t] w fun e w' => e = .returned (.agg #[.bool true,.int .i64 c,.int .i64 a,.int .i64 k,.int .i64 t,.bool true])∧Below w.heap.size w w':=by
 have hb:=b1' w (.cells #[.bool false,.int .i64 0,.int .i64 0,.int .i64 0,.int .i64 0,.bool false] 53)
 have hk:=Blk.new w 53 #[.bool false,.int .i64 0,.int .i64 0,.int .i64 0,.int .i64 0,.bool false]
 obtain ⟨W1,hW1⟩:∃ W,w.alloc (.cells #[.bool false,.int .i64 0,.int .i64 0,.int .i64 0,.int .i64 0,.bool false] 53) = W:=⟨_,rfl⟩
 rw [hW1] at hb hk
 have x0:=hk.cell 0
 have x1:=hk.cell 1
 have x2:=hk.cell 2
 have x3:=hk.cell 3
 have x4:=hk.cell 4
 have x5:=hk.cell 5
 have f0:=hk.frozen 0
 have f1:=hk.frozen 1
 have f2:=hk.frozen 2
 have f3:=hk.frozen 3
 have f4:=hk.frozen 4
 have f5:=hk.frozen 5
 have HK:=Lib.hid hk
 have HB:=Lib.hid hb
 clear hk hb
 go_enter Tryz.func30,Tryz.ntmps30
 go_wp2_with fail
 have hp:=(((((HK.out.set_ 0 (.bool true)).set_ 1 (.int .i64 c)).set_ 2 (.int .i64 a)).set_ 3 (.int .i64 k)).set_ 4 (.int .i64 t)).set_ 5 (.bool true)
 have q0:=hp.cell 0
 have q1:=hp.cell 1
 have q2:=hp.cell 2
 have q3:=hp.cell 3
 have q4:=hp.cell 4
 have q5:=hp.cell 5
 refine bodyPost_ret (v:=.agg #[.bool true,.int .i64 c,.int .i64 a,.int .i64 k,.int .i64 t,.bool true]) (by simp [results,Tryz.results30,go_sem,q0,q1,q2,q3,q4,q5]) rfl ⟨rfl,?_⟩
 have hle:w.heap.size≤w.heap.size:=Nat.le_refl _
 exact (((((HB.out.setCell (p:=⟨w.heap.size,0,none⟩) hle _).setCell (p:=⟨w.heap.size,1,none⟩) hle _).setCell (p:=⟨w.heap.size,2,none⟩) hle _).setCell (p:=⟨w.heap.size,3,none⟩) hle _).setCell (p:=⟨w.heap.size,4,none⟩) hle _).setCell (p:=⟨w.heap.size,5,none⟩) hle _
def Fs18 (wc wn:World) (l:List (Nat × TypeId × Array Value)):Prop:=Below wc.heap.size wc wn∧∀ p,p∈l→Blk wn p.1 p.2.1 p.2.2∧wc.heap.size≤p.1
theorem Fs18.ca {wc wn w2:World} {l:List (Nat × TypeId × Array Value)} (h:Fs18 wc wn l) (hb:Below wn.heap.size wn w2):Fs18 wc w2 l:=⟨h.1.trans (hb.mono h.1.size),fun p hp => ⟨(h.2 p hp).1.below hb (h.2 p hp).1.lt,(h.2 p hp).2⟩⟩
theorem Fs18.al {wc wn:World} (l1 l2:List (Nat × TypeId × Array Value)) (h:Fs18 wc wn (l1 ++ l2)) (cs:Array Value) (t:TypeId):Fs18 wc (wn.alloc (.cells cs t)) (l1 ++ (wn.heap.size,t,cs) :: l2):=by
 have h1:=h.ca (b1' wn (.cells cs t))
 refine ⟨h1.1,fun p hp => ?_⟩
 rcases List.mem_append.1 hp with hp | hp
 · exact h1.2 p (List.mem_append.2 (.inl hp))
 ·
  rcases List.mem_cons.1 hp with rfl | hp
  · exact ⟨Blk.new _ _ _,h.1.size⟩
  · exact h1.2 p (List.mem_append.2 (.inr hp))
def t18_1:Value:=.agg #[.bool true,.int .i64 0,.int .i64 10,.int .i64 2,.int .i64 1,.bool true]
def t18_2:Value:=.agg #[.bool true,.int .i64 1,.int .i64 1,.int .i64 1,.int .i64 0,.bool true]
def t18_3:Value:=.agg #[.bool true,.int .i64 1,.int .i64 2,.int .i64 1,.int .i64 1,.bool true]
def e18_0 (g:Nat):Nat × TypeId × Array Value:=(g,4,#[.bool true,.bool true])
theorem al18_0 {wc wn:World} (l1 l2:List (Nat × TypeId × Array Value)) (h:Fs18 wc wn (l1 ++ l2)):Fs18 wc (wn.alloc (.cells #[.bool true,.bool true] 4)) (l1 ++ e18_0 wn.heap.size :: l2):=h.al l1 l2 _ _
def e18_4 (g:Nat):Nat × TypeId × Array Value:=(g,53,#[.bool true,.int .i64 0,.int .i64 10,.int .i64 2,.int .i64 1,.bool true,.bool true,.int .i64 1,.int .i64 1,.int .i64 1,.int .i64 0,.bool true,.bool true,.int .i64 1,.int .i64 2,.int .i64 1,.int .i64 1,.bool true])
theorem al18_4 {wc wn:World} (l1 l2:List (Nat × TypeId × Array Value)) (h:Fs18 wc wn (l1 ++ l2)):Fs18 wc (wn.alloc (.cells #[.bool true,.int .i64 0,.int .i64 10,.int .i64 2,.int .i64 1,.bool true,.bool true,.int .i64 1,.int .i64 1,.int .i64 1,.int .i64 0,.bool true,.bool true,.int .i64 1,.int .i64 2,.int .i64 1,.int .i64 1,.bool true] 53)) (l1 ++ e18_4 wn.heap.size :: l2):=h.al l1 l2 _ _
def e18_7 (g:Nat):Nat × TypeId × Array Value:=(g,58,#[.int .i64 2,.int .i64 (-1),.int .i64 (-1),.int .i64 1,.int .i64 1,.int .i64 2,.int .i64 (-1),.int .i64 (-1),.int .i64 1,.int .i64 1])
theorem al18_7 {wc wn:World} (l1 l2:List (Nat × TypeId × Array Value)) (h:Fs18 wc wn (l1 ++ l2)):Fs18 wc (wn.alloc (.cells #[.int .i64 2,.int .i64 (-1),.int .i64 (-1),.int .i64 1,.int .i64 1,.int .i64 2,.int .i64 (-1),.int .i64 (-1),.int .i64 1,.int .i64 1] 58)) (l1 ++ e18_7 wn.heap.size :: l2):=h.al l1 l2 _ _
def e18_9 (g:Nat):Nat × TypeId × Array Value:=(g,28,#[.slice none 0 0,.slice none 0 0,.slice none 0 0,.slice none 0 0,.slice none 0 0,.int .i64 0])
theorem al18_9 {wc wn:World} (l1 l2:List (Nat × TypeId × Array Value)) (h:Fs18 wc wn (l1 ++ l2)):Fs18 wc (wn.alloc (.cells #[.slice none 0 0,.slice none 0 0,.slice none 0 0,.slice none 0 0,.slice none 0 0,.int .i64 0] 28)) (l1 ++ e18_9 wn.heap.size :: l2):=h.al l1 l2 _ _
section
variable {t0 t1 t2 t3 t4 t5 t6 t7 t8 t9 t10 t11 t12 t13 t14 t15 t16 t17 t18 t19 t20 t21 t22 t23 t24 t25 t26 t27 t28 t29 t30 t31 t32 t33 t34 t35 t36 t37 t38 t39 t40 t41 t42 t43 t44:Value}
variable {Q:Exit→Act→World→Prop}
def ops18as:{ o:Array Oper // (match Go.Func.body Tryz.f8 with | some c => regionOf17 c 2 | none => none) = some o }:=⟨_,rfl⟩
def ops18a:Array Oper:=ops18as.1
set_option maxHeartbeats 64000000 in
theorem built18 {wc:World} {ga:Nat} (ha:Blk wc ga 58 #[.int .i64 2,.int .i64 (-1),.int .i64 (-1),.int .i64 1,.int .i64 1])
  (hP:∀ c a d v w,Q (.panic c) (Act.put a (some d) v) w→Q (.panic c) a w)
  (hQ:∀ (x5 x6 x7 x8 x9 x10 x11 x12 x13:Value) (g0 g4 g7 g9:Nat) (wn:World),Below wc.heap.size wc wn→Blk wn g9 28 #[.slice (some ⟨g0,0,none⟩) 2 2,.slice (some ⟨g4,0,none⟩) 3 3,.slice (some ⟨g7,0,none⟩) 2 2,.slice none 0 0,.slice none 0 0,.int .i64 5]→Blk wn g0 4 #[.bool true,.bool true]→Blk wn g4 53 #[.bool true,.int .i64 0,.int .i64 10,.int .i64 2,.int .i64 1,.bool true,.bool true,.int .i64 1,.int .i64 1,.int .i64 1,.int .i64 0,.bool true,.bool true,.int .i64 1,.int .i64 2,.int .i64 1,.int .i64 1,.bool true]→Blk wn g7 58 #[.int .i64 2,.int .i64 (-1),.int .i64 (-1),.int .i64 1,.int .i64 1,.int .i64 2,.int .i64 (-1),.int .i64 (-1),.int .i64 1,.int .i64 1]→Q .normal { tmps:=#[.bool false,.pointer (some ⟨ga,0,none⟩),.pointer (some ⟨g9,0,none⟩),t3,t4,x5,x6,x7,x8,x9,x10,x11,x12,x13,t14,t15,t16,t17,t18,t19,t20,t21,t22,t23,t24,t25,t26,t27,t28,t29,t30,t31,t32,t33,t34,t35,t36,t37,t38,t39,t40,t41,t42,t43,t44],defers:=[] } wn) :
  (Code.region 2 ops18a true).wp Tryz.prog Q { tmps:=#[.bool false,.pointer (some ⟨ga,0,none⟩),t2,t3,t4,t5,t6,t7,t8,t9,t10,t11,t12,t13,t14,t15,t16,t17,t18,t19,t20,t21,t22,t23,t24,t25,t26,t27,t28,t29,t30,t31,t32,t33,t34,t35,t36,t37,t38,t39,t40,t41,t42,t43,t44],defers:=[] } wc:=by
 have HA:=Lib.hid ha
 clear ha
 have hst:Below wc.heap.size wc wc.drew:=(Below.refl _ _).drew
 have HBS:=Lib.hid hst
 refine wp_region_held_drew (S:=fun W => Below wc.heap.size wc W) (by kernel_rfl) hst (fun hHeld => ?_)
 change wpAnyH _ _ ops18a _ _ 11 #[false,false,false,false,false,false,false,false,false,false,false] _ _
 obtain ⟨wn,hwn⟩:∃ W,wc.drew = W:=⟨_,rfl⟩
 rw [hwn] at HBS hHeld
 rw [hwn]
 clear hwn hst
 refine tkp hP 5 (v:=?_) (fun W hS => ?_) ?_
 rotate_left
 ·
  try dsimp only at hS
  have z0:=(hS.cell (p:=⟨ga,0,none⟩) HA.out.lt).trans (HA.out.cell 0)
  have z1:=(hS.cell (p:=⟨ga,1,none⟩) HA.out.lt).trans (HA.out.cell 1)
  have z2:=(hS.cell (p:=⟨ga,2,none⟩) HA.out.lt).trans (HA.out.cell 2)
  have z3:=(hS.cell (p:=⟨ga,3,none⟩) HA.out.lt).trans (HA.out.cell 3)
  have z4:=(hS.cell (p:=⟨ga,4,none⟩) HA.out.lt).trans (HA.out.cell 4)
  go_simp
  try with_reducible rfl
 try simp only [Act.put,pt1,pt2,pt3]
 refine tkp hP 6 (v:=?_) (fun W hS => ?_) ?_
 rotate_left
 ·
  try dsimp only at hS
  have z0:=(hS.cell (p:=⟨ga,0,none⟩) HA.out.lt).trans (HA.out.cell 0)
  have z1:=(hS.cell (p:=⟨ga,1,none⟩) HA.out.lt).trans (HA.out.cell 1)
  have z2:=(hS.cell (p:=⟨ga,2,none⟩) HA.out.lt).trans (HA.out.cell 2)
  have z3:=(hS.cell (p:=⟨ga,3,none⟩) HA.out.lt).trans (HA.out.cell 3)
  have z4:=(hS.cell (p:=⟨ga,4,none⟩) HA.out.lt).trans (HA.out.cell 4)
  go_simp
  try with_reducible rfl
 try simp only [Act.put,pt1,pt2,pt3]
 refine memo (fun a G => ∀ (wn:World) (g0 g4 g7 g9:Nat),Fs18 wc wn [e18_0 g0,e18_4 g4,e18_7 g7,e18_9 g9]→G (((((((a.put (some 5) (.slice (some ⟨g0,0,none⟩) 2 2)).put (some 6) t18_1).put (some 7) t18_2).put (some 8) t18_3).put (some 9) (.slice (some ⟨g4,0,none⟩) 3 3)).put (some 12) (.slice (some ⟨g7,0,none⟩) 2 2)).put (some 2) (.pointer (some ⟨g9,0,none⟩))) wn) 2 #[true,true,true,true,true,true,true,true,false,true,false] ?_ ?_
 ·
  try simp only [Act.put,pt1,pt2,pt3]; try simp only [t18_1,t18_2,t18_3]
  intro wn g0 g4 g7 g9 HW
  have HW:=Lib.hid HW
  obtain ⟨hB,hL⟩:=HW.out
  obtain ⟨hk0,hf0⟩:=hL (e18_0 g0) (by simp)
  have HK0:Hid (Blk wn g0 4 #[.bool true,.bool true]):=Lib.hid hk0
  have HF0:Hid (wc.heap.size≤g0):=Lib.hid hf0
  obtain ⟨hk4,hf4⟩:=hL (e18_4 g4) (by simp)
  have HK4:Hid (Blk wn g4 53 #[.bool true,.int .i64 0,.int .i64 10,.int .i64 2,.int .i64 1,.bool true,.bool true,.int .i64 1,.int .i64 1,.int .i64 1,.int .i64 0,.bool true,.bool true,.int .i64 1,.int .i64 2,.int .i64 1,.int .i64 1,.bool true]):=Lib.hid hk4
  have HF4:Hid (wc.heap.size≤g4):=Lib.hid hf4
  obtain ⟨hk7,hf7⟩:=hL (e18_7 g7) (by simp)
  have HK7:Hid (Blk wn g7 58 #[.int .i64 2,.int .i64 (-1),.int .i64 (-1),.int .i64 1,.int .i64 1,.int .i64 2,.int .i64 (-1),.int .i64 (-1),.int .i64 1,.int .i64 1]):=Lib.hid hk7
  have HF7:Hid (wc.heap.size≤g7):=Lib.hid hf7
  obtain ⟨hk9,hf9⟩:=hL (e18_9 g9) (by simp)
  have HK9:Hid (Blk wn g9 28 #[.slice none 0 0,.slice none 0 0,.slice none 0 0,.slice none 0 0,.slice none 0 0,.int .i64 0]):=Lib.hid hk9
  have HF9:Hid (wc.heap.size≤g9):=Lib.hid hf9
  have HBS:=Lib.hid hB
  clear HW hB hL hk0 hf0 hk4 hf4 hk7 hf7 hk9 hf9
  refine tkp hP 8 (v:=?_) (fun W hS => ?_) ?_
  rotate_left
  · (go_simp; try with_reducible rfl)
  try simp only [Act.put,pt1,pt2,pt3]
  refine rdy 10 (fun K hK => ?_)
  have x0:=HK9.out.cell 0
  have y0:=HK9.out.frozen 0
  have x1:=HK9.out.cell 1
  have y1:=HK9.out.frozen 1
  have x2:=HK9.out.cell 2
  have y2:=HK9.out.frozen 2
  have x3:=HK9.out.cell 3
  have y3:=HK9.out.frozen 3
  have x4:=HK9.out.cell 4
  have y4:=HK9.out.frozen 4
  have x5:=HK9.out.cell 5
  have y5:=HK9.out.frozen 5
  go_simp
  obtain ⟨wm,hwm⟩:∃ W,(((((wn.setCell ⟨g9,0,none⟩ (.slice (some ⟨g0,0,none⟩) 2 2)).setCell ⟨g9,1,none⟩ (.slice (some ⟨g4,0,none⟩) 3 3)).setCell ⟨g9,2,none⟩ (.slice (some ⟨g7,0,none⟩) 2 2)).setCell ⟨g9,3,none⟩ (.slice none 0 0)).setCell ⟨g9,4,none⟩ (.slice none 0 0)).setCell ⟨g9,5,none⟩ (.int .i64 5) = W:=⟨_,rfl⟩
  have HK0:=Lib.hid (show Blk wm g0 4 #[.bool true,.bool true] by rw [← hwm]; exact ((((((HK0.out.far (blk_ne12 HK0.out HK9.out (by decide)) _).far (blk_ne12 HK0.out HK9.out (by decide)) _).far (blk_ne12 HK0.out HK9.out (by decide)) _).far (blk_ne12 HK0.out HK9.out (by decide)) _).far (blk_ne12 HK0.out HK9.out (by decide)) _).far (blk_ne12 HK0.out HK9.out (by decide)) _))
  have HK4:=Lib.hid (show Blk wm g4 53 #[.bool true,.int .i64 0,.int .i64 10,.int .i64 2,.int .i64 1,.bool true,.bool true,.int .i64 1,.int .i64 1,.int .i64 1,.int .i64 0,.bool true,.bool true,.int .i64 1,.int .i64 2,.int .i64 1,.int .i64 1,.bool true] by rw [← hwm]; exact ((((((HK4.out.far (blk_ne12 HK4.out HK9.out (by decide)) _).far (blk_ne12 HK4.out HK9.out (by decide)) _).far (blk_ne12 HK4.out HK9.out (by decide)) _).far (blk_ne12 HK4.out HK9.out (by decide)) _).far (blk_ne12 HK4.out HK9.out (by decide)) _).far (blk_ne12 HK4.out HK9.out (by decide)) _))
  have HK7:=Lib.hid (show Blk wm g7 58 #[.int .i64 2,.int .i64 (-1),.int .i64 (-1),.int .i64 1,.int .i64 1,.int .i64 2,.int .i64 (-1),.int .i64 (-1),.int .i64 1,.int .i64 1] by rw [← hwm]; exact ((((((HK7.out.far (blk_ne12 HK7.out HK9.out (by decide)) _).far (blk_ne12 HK7.out HK9.out (by decide)) _).far (blk_ne12 HK7.out HK9.out (by decide)) _).far (blk_ne12 HK7.out HK9.out (by decide)) _).far (blk_ne12 HK7.out HK9.out (by decide)) _).far (blk_ne12 HK7.out HK9.out (by decide)) _))
  have hp:=(((((HK9.out.set_ 0 (.slice (some ⟨g0,0,none⟩) 2 2)).set_ 1 (.slice (some ⟨g4,0,none⟩) 3 3)).set_ 2 (.slice (some ⟨g7,0,none⟩) 2 2)).set_ 3 (.slice none 0 0)).set_ 4 (.slice none 0 0)).set_ 5 (.int .i64 5)
  rw [hwm] at hp
  have HK9:Hid (Blk wm g9 28 #[.slice (some ⟨g0,0,none⟩) 2 2,.slice (some ⟨g4,0,none⟩) 3 3,.slice (some ⟨g7,0,none⟩) 2 2,.slice none 0 0,.slice none 0 0,.int .i64 5]):=Lib.hid hp
  have HBS:=Lib.hid (show Below wc.heap.size wc wm by rw [← hwm]; exact (((((HBS.out.setCell (p:=⟨g9,0,none⟩) HF9.out _).setCell (p:=⟨g9,1,none⟩) HF9.out _).setCell (p:=⟨g9,2,none⟩) HF9.out _).setCell (p:=⟨g9,3,none⟩) HF9.out _).setCell (p:=⟨g9,4,none⟩) HF9.out _).setCell (p:=⟨g9,5,none⟩) HF9.out _)
  rw [hwm]
  clear hp hwm x0 y0 x1 y1 x2 y2 x3 y3 x4 y4 x5 y5
  refine hK.out _ _ HBS.out (fun hHeld => ?_)
  clear hK K
  try simp only [Act.put,pt1,pt2,pt3]
  refine wpAnyH_done (by kernel_rfl) ?_ _
  exact hQ _ _ _ _ _ _ _ _ _ g0 g4 g7 g9 wm HBS.out HK9.out HK0.out HK4.out HK7.out
 intro key
 (try dsimp only [Act.put] at key); try simp only [pt1,pt2,pt3] at key
 have K_0_1_2_3_4_7_9:=Lib.hid key
 clear key
 refine memo (fun a G => ∀ (wn:World) (g0 g7 g9:Nat),Fs18 wc wn [e18_0 g0,e18_7 g7,e18_9 g9]→G ((((((a.put (some 5) (.slice (some ⟨g0,0,none⟩) 2 2)).put (some 6) t18_1).put (some 7) t18_2).put (some 8) t18_3).put (some 12) (.slice (some ⟨g7,0,none⟩) 2 2)).put (some 2) (.pointer (some ⟨g9,0,none⟩))) wn) 3 #[true,true,true,true,false,true,true,true,false,true,false] ?_ ?_
 ·
  try simp only [Act.put,pt1,pt2,pt3]; try simp only [t18_1,t18_2,t18_3]
  intro wn g0 g7 g9 HW
  have HW:=Lib.hid HW
  refine rdy 4 (fun K hK => ?_)
  go_simp
  have hw:=al18_4 [e18_0 g0] [e18_7 g7,e18_9 g9] HW.out
  refine hK.out _ _ hw.1 (fun hHeld => ?_)
  try simp only [Act.put,pt1,pt2,pt3]
  exact K_0_1_2_3_4_7_9.out _ _ _ _ _ hw
 intro key
 (try dsimp only [Act.put] at key); try simp only [pt1,pt2,pt3] at key
 have K_0_1_2_3_7_9:=Lib.hid key
 clear key
 refine memo (fun a G => ∀ (wn:World) (g0 g4 g7:Nat),Fs18 wc wn [e18_0 g0,e18_4 g4,e18_7 g7]→G ((((((a.put (some 5) (.slice (some ⟨g0,0,none⟩) 2 2)).put (some 6) t18_1).put (some 7) t18_2).put (some 8) t18_3).put (some 9) (.slice (some ⟨g4,0,none⟩) 3 3)).put (some 12) (.slice (some ⟨g7,0,none⟩) 2 2)) wn) 3 #[true,true,true,true,true,true,true,true,false,false,false] ?_ ?_
 ·
  try simp only [Act.put,pt1,pt2,pt3]; try simp only [t18_1,t18_2,t18_3]
  intro wn g0 g4 g7 HW
  have HW:=Lib.hid HW
  have HBS:=Lib.hid HW.out.1
  refine tkp hP 8 (v:=?_) (fun W hS => ?_) ?_
  rotate_left
  · (go_simp; try with_reducible rfl)
  try simp only [Act.put,pt1,pt2,pt3]
  refine rdy 9 (fun K hK => ?_)
  go_simp
  have hw:=al18_9 [e18_0 g0,e18_4 g4,e18_7 g7] [] (by simpa using HW.out)
  refine hK.out _ _ hw.1 (fun hHeld => ?_)
  clear hK K HBS
  try simp only [Act.put,pt1,pt2,pt3]
  have HW:=Lib.hid hw
  clear hw
  obtain ⟨g9,hg9⟩:∃ g,wn.heap.size = g:=⟨_,rfl⟩
  obtain ⟨wm,hwm⟩:∃ W,wn.alloc (.cells #[.slice none 0 0,.slice none 0 0,.slice none 0 0,.slice none 0 0,.slice none 0 0,.int .i64 0] 28) = W:=⟨_,rfl⟩
  rw [hg9,hwm] at HW
  try rw [hg9]
  try rw [hwm]
  try rw [hwm] at hHeld
  clear hg9 hwm
  obtain ⟨wn,hwn⟩:∃ W,W = wm:=⟨_,rfl⟩
  subst hwn
  obtain ⟨hB,hL⟩:=HW.out
  obtain ⟨hk0,hf0⟩:=hL (e18_0 g0) (by simp)
  have HK0:Hid (Blk wn g0 4 #[.bool true,.bool true]):=Lib.hid hk0
  have HF0:Hid (wc.heap.size≤g0):=Lib.hid hf0
  obtain ⟨hk4,hf4⟩:=hL (e18_4 g4) (by simp)
  have HK4:Hid (Blk wn g4 53 #[.bool true,.int .i64 0,.int .i64 10,.int .i64 2,.int .i64 1,.bool true,.bool true,.int .i64 1,.int .i64 1,.int .i64 1,.int .i64 0,.bool true,.bool true,.int .i64 1,.int .i64 2,.int .i64 1,.int .i64 1,.bool true]):=Lib.hid hk4
  have HF4:Hid (wc.heap.size≤g4):=Lib.hid hf4
  obtain ⟨hk7,hf7⟩:=hL (e18_7 g7) (by simp)
  have HK7:Hid (Blk wn g7 58 #[.int .i64 2,.int .i64 (-1),.int .i64 (-1),.int .i64 1,.int .i64 1,.int .i64 2,.int .i64 (-1),.int .i64 (-1),.int .i64 1,.int .i64 1]):=Lib.hid hk7
  have HF7:Hid (wc.heap.size≤g7):=Lib.hid hf7
  obtain ⟨hk9,hf9⟩:=hL (e18_9 g9) (by simp)
  have HK9:Hid (Blk wn g9 28 #[.slice none 0 0,.slice none 0 0,.slice none 0 0,.slice none 0 0,.slice none 0 0,.int .i64 0]):=Lib.hid hk9
  have HF9:Hid (wc.heap.size≤g9):=Lib.hid hf9
  have HBS:=Lib.hid hB
  clear HW hB hL hk0 hf0 hk4 hf4 hk7 hf7 hk9 hf9
  refine rdy 10 (fun K hK => ?_)
  have x0:=HK9.out.cell 0
  have y0:=HK9.out.frozen 0
  have x1:=HK9.out.cell 1
  have y1:=HK9.out.frozen 1
  have x2:=HK9.out.cell 2
  have y2:=HK9.out.frozen 2
  have x3:=HK9.out.cell 3
  have y3:=HK9.out.frozen 3
  have x4:=HK9.out.cell 4
  have y4:=HK9.out.frozen 4
  have x5:=HK9.out.cell 5
  have y5:=HK9.out.frozen 5
  go_simp
  obtain ⟨wm,hwm⟩:∃ W,(((((wn.setCell ⟨g9,0,none⟩ (.slice (some ⟨g0,0,none⟩) 2 2)).setCell ⟨g9,1,none⟩ (.slice (some ⟨g4,0,none⟩) 3 3)).setCell ⟨g9,2,none⟩ (.slice (some ⟨g7,0,none⟩) 2 2)).setCell ⟨g9,3,none⟩ (.slice none 0 0)).setCell ⟨g9,4,none⟩ (.slice none 0 0)).setCell ⟨g9,5,none⟩ (.int .i64 5) = W:=⟨_,rfl⟩
  have HK0:=Lib.hid (show Blk wm g0 4 #[.bool true,.bool true] by rw [← hwm]; exact ((((((HK0.out.far (blk_ne12 HK0.out HK9.out (by decide)) _).far (blk_ne12 HK0.out HK9.out (by decide)) _).far (blk_ne12 HK0.out HK9.out (by decide)) _).far (blk_ne12 HK0.out HK9.out (by decide)) _).far (blk_ne12 HK0.out HK9.out (by decide)) _).far (blk_ne12 HK0.out HK9.out (by decide)) _))
  have HK4:=Lib.hid (show Blk wm g4 53 #[.bool true,.int .i64 0,.int .i64 10,.int .i64 2,.int .i64 1,.bool true,.bool true,.int .i64 1,.int .i64 1,.int .i64 1,.int .i64 0,.bool true,.bool true,.int .i64 1,.int .i64 2,.int .i64 1,.int .i64 1,.bool true] by rw [← hwm]; exact ((((((HK4.out.far (blk_ne12 HK4.out HK9.out (by decide)) _).far (blk_ne12 HK4.out HK9.out (by decide)) _).far (blk_ne12 HK4.out HK9.out (by decide)) _).far (blk_ne12 HK4.out HK9.out (by decide)) _).far (blk_ne12 HK4.out HK9.out (by decide)) _).far (blk_ne12 HK4.out HK9.out (by decide)) _))
  have HK7:=Lib.hid (show Blk wm g7 58 #[.int .i64 2,.int .i64 (-1),.int .i64 (-1),.int .i64 1,.int .i64 1,.int .i64 2,.int .i64 (-1),.int .i64 (-1),.int .i64 1,.int .i64 1] by rw [← hwm]; exact ((((((HK7.out.far (blk_ne12 HK7.out HK9.out (by decide)) _).far (blk_ne12 HK7.out HK9.out (by decide)) _).far (blk_ne12 HK7.out HK9.out (by decide)) _).far (blk_ne12 HK7.out HK9.out (by decide)) _).far (blk_ne12 HK7.out HK9.out (by decide)) _).far (blk_ne12 HK7.out HK9.out (by decide)) _))
  have hp:=(((((HK9.out.set_ 0 (.slice (some ⟨g0,0,none⟩) 2 2)).set_ 1 (.slice (some ⟨g4,0,none⟩) 3 3)).set_ 2 (.slice (some ⟨g7,0,none⟩) 2 2)).set_ 3 (.slice none 0 0)).set_ 4 (.slice none 0 0)).set_ 5 (.int .i64 5)
  rw [hwm] at hp
  have HK9:Hid (Blk wm g9 28 #[.slice (some ⟨g0,0,none⟩) 2 2,.slice (some ⟨g4,0,none⟩) 3 3,.slice (some ⟨g7,0,none⟩) 2 2,.slice none 0 0,.slice none 0 0,.int .i64 5]):=Lib.hid hp
  have HBS:=Lib.hid (show Below wc.heap.size wc wm by rw [← hwm]; exact (((((HBS.out.setCell (p:=⟨g9,0,none⟩) HF9.out _).setCell (p:=⟨g9,1,none⟩) HF9.out _).setCell (p:=⟨g9,2,none⟩) HF9.out _).setCell (p:=⟨g9,3,none⟩) HF9.out _).setCell (p:=⟨g9,4,none⟩) HF9.out _).setCell (p:=⟨g9,5,none⟩) HF9.out _)
  rw [hwm]
  clear hp hwm x0 y0 x1 y1 x2 y2 x3 y3 x4 y4 x5 y5
  refine hK.out _ _ HBS.out (fun hHeld => ?_)
  clear hK K
  try simp only [Act.put,pt1,pt2,pt3]
  refine wpAnyH_done (by kernel_rfl) ?_ _
  exact hQ _ _ _ _ _ _ _ _ _ g0 g4 g7 g9 wm HBS.out HK9.out HK0.out HK4.out HK7.out
 intro key
 (try dsimp only [Act.put] at key); try simp only [pt1,pt2,pt3] at key
 have K_0_1_2_3_4_7:=Lib.hid key
 clear key
 refine memo (fun a G => ∀ (wn:World) (g0 g4 g9:Nat),Fs18 wc wn [e18_0 g0,e18_4 g4,e18_9 g9]→G ((((((a.put (some 5) (.slice (some ⟨g0,0,none⟩) 2 2)).put (some 6) t18_1).put (some 7) t18_2).put (some 8) t18_3).put (some 9) (.slice (some ⟨g4,0,none⟩) 3 3)).put (some 2) (.pointer (some ⟨g9,0,none⟩))) wn) 3 #[true,true,true,true,true,true,true,false,false,true,false] ?_ ?_
 ·
  try simp only [Act.put,pt1,pt2,pt3]; try simp only [t18_1,t18_2,t18_3]
  intro wn g0 g4 g9 HW
  have HW:=Lib.hid HW
  refine rdy 7 (fun K hK => ?_)
  go_simp
  have hw:=al18_7 [e18_0 g0,e18_4 g4] [e18_9 g9] HW.out
  refine hK.out _ _ hw.1 (fun hHeld => ?_)
  try simp only [Act.put,pt1,pt2,pt3]
  exact K_0_1_2_3_4_7_9.out _ _ _ _ _ hw
 intro key
 (try dsimp only [Act.put] at key); try simp only [pt1,pt2,pt3] at key
 have K_0_1_2_3_4_9:=Lib.hid key
 clear key
 refine memo (fun a G => ∀ (wn:World) (g4 g7 g9:Nat),Fs18 wc wn [e18_4 g4,e18_7 g7,e18_9 g9]→G ((((((a.put (some 6) t18_1).put (some 7) t18_2).put (some 8) t18_3).put (some 9) (.slice (some ⟨g4,0,none⟩) 3 3)).put (some 12) (.slice (some ⟨g7,0,none⟩) 2 2)).put (some 2) (.pointer (some ⟨g9,0,none⟩))) wn) 3 #[false,true,true,true,true,true,true,true,false,true,false] ?_ ?_
 ·
  try simp only [Act.put,pt1,pt2,pt3]; try simp only [t18_1,t18_2,t18_3]
  intro wn g4 g7 g9 HW
  have HW:=Lib.hid HW
  refine rdy 0 (fun K hK => ?_)
  go_simp
  have hw:=al18_0 [] [e18_4 g4,e18_7 g7,e18_9 g9] HW.out
  refine hK.out _ _ hw.1 (fun hHeld => ?_)
  try simp only [Act.put,pt1,pt2,pt3]
  exact K_0_1_2_3_4_7_9.out _ _ _ _ _ hw
 intro key
 (try dsimp only [Act.put] at key); try simp only [pt1,pt2,pt3] at key
 have K_1_2_3_4_7_9:=Lib.hid key
 clear key
 refine memo (fun a G => ∀ (wn:World) (g0 g7 g9:Nat),Fs18 wc wn [e18_0 g0,e18_7 g7,e18_9 g9]→G (((((a.put (some 5) (.slice (some ⟨g0,0,none⟩) 2 2)).put (some 6) t18_1).put (some 7) t18_2).put (some 12) (.slice (some ⟨g7,0,none⟩) 2 2)).put (some 2) (.pointer (some ⟨g9,0,none⟩))) wn) 4 #[true,true,true,false,false,true,true,true,false,true,false] ?_ ?_
 ·
  try simp only [Act.put,pt1,pt2,pt3]; try simp only [t18_1,t18_2,t18_3]
  intro wn g0 g7 g9 HW
  have HW:=Lib.hid HW
  refine rdy 3 (fun K hK => ?_)
  go_simp
  refine (share18l _ _ _ _ _).mono ?_
  rintro en w2 ⟨rfl,hb⟩
  have hw:=HW.out.ca hb
  refine hK.out _ _ hw.1 (fun hHeld => ?_)
  try simp only [Act.put,pt1,pt2,pt3]
  exact K_0_1_2_3_7_9.out _ _ _ _ hw
 intro key
 (try dsimp only [Act.put] at key); try simp only [pt1,pt2,pt3] at key
 have K_0_1_2_7_9:=Lib.hid key
 clear key
 refine memo (fun a G => ∀ (wn:World) (g0 g7:Nat),Fs18 wc wn [e18_0 g0,e18_7 g7]→G (((((a.put (some 5) (.slice (some ⟨g0,0,none⟩) 2 2)).put (some 6) t18_1).put (some 7) t18_2).put (some 8) t18_3).put (some 12) (.slice (some ⟨g7,0,none⟩) 2 2)) wn) 4 #[true,true,true,true,false,true,true,true,false,false,false] ?_ ?_
 ·
  try simp only [Act.put,pt1,pt2,pt3]; try simp only [t18_1,t18_2,t18_3]
  intro wn g0 g7 HW
  have HW:=Lib.hid HW
  refine wpAnyH_ready (rs:=[4,9]) (by kernel_rfl) (by simp) (rc (fun K hK => ?_) (rc (fun K hK => ?_) AllReadyH.nil))
  ·
   skip
   go_simp
   have hw:=al18_4 [e18_0 g0] [e18_7 g7] HW.out
   refine hK.out _ _ hw.1 (fun hHeld => ?_)
   try simp only [Act.put,pt1,pt2,pt3]
   exact K_0_1_2_3_4_7.out _ _ _ _ hw
  ·
   skip
   go_simp
   have hw:=al18_9 [e18_0 g0,e18_7 g7] [] HW.out
   refine hK.out _ _ hw.1 (fun hHeld => ?_)
   try simp only [Act.put,pt1,pt2,pt3]
   exact K_0_1_2_3_7_9.out _ _ _ _ hw
 intro key
 (try dsimp only [Act.put] at key); try simp only [pt1,pt2,pt3] at key
 have K_0_1_2_3_7:=Lib.hid key
 clear key
 refine memo (fun a G => ∀ (wn:World) (g0 g9:Nat),Fs18 wc wn [e18_0 g0,e18_9 g9]→G (((((a.put (some 5) (.slice (some ⟨g0,0,none⟩) 2 2)).put (some 6) t18_1).put (some 7) t18_2).put (some 8) t18_3).put (some 2) (.pointer (some ⟨g9,0,none⟩))) wn) 4 #[true,true,true,true,false,true,true,false,false,true,false] ?_ ?_
 ·
  try simp only [Act.put,pt1,pt2,pt3]; try simp only [t18_1,t18_2,t18_3]
  intro wn g0 g9 HW
  have HW:=Lib.hid HW
  refine wpAnyH_ready (rs:=[4,7]) (by kernel_rfl) (by simp) (rc (fun K hK => ?_) (rc (fun K hK => ?_) AllReadyH.nil))
  ·
   skip
   go_simp
   have hw:=al18_4 [e18_0 g0] [e18_9 g9] HW.out
   refine hK.out _ _ hw.1 (fun hHeld => ?_)
   try simp only [Act.put,pt1,pt2,pt3]
   exact K_0_1_2_3_4_9.out _ _ _ _ hw
  ·
   skip
   go_simp
   have hw:=al18_7 [e18_0 g0] [e18_9 g9] HW.out
   refine hK.out _ _ hw.1 (fun hHeld => ?_)
   try simp only [Act.put,pt1,pt2,pt3]
   exact K_0_1_2_3_7_9.out _ _ _ _ hw
 intro key
 (try dsimp only [Act.put] at key); try simp only [pt1,pt2,pt3] at key
 have K_0_1_2_3_9:=Lib.hid key
 clear key
 refine memo (fun a G => ∀ (wn:World) (g7 g9:Nat),Fs18 wc wn [e18_7 g7,e18_9 g9]→G (((((a.put (some 6) t18_1).put (some 7) t18_2).put (some 8) t18_3).put (some 12) (.slice (some ⟨g7,0,none⟩) 2 2)).put (some 2) (.pointer (some ⟨g9,0,none⟩))) wn) 4 #[false,true,true,true,false,true,true,true,false,true,false] ?_ ?_
 ·
  try simp only [Act.put,pt1,pt2,pt3]; try simp only [t18_1,t18_2,t18_3]
  intro wn g7 g9 HW
  have HW:=Lib.hid HW
  refine wpAnyH_ready (rs:=[0,4]) (by kernel_rfl) (by simp) (rc (fun K hK => ?_) (rc (fun K hK => ?_) AllReadyH.nil))
  ·
   skip
   go_simp
   have hw:=al18_0 [] [e18_7 g7,e18_9 g9] HW.out
   refine hK.out _ _ hw.1 (fun hHeld => ?_)
   try simp only [Act.put,pt1,pt2,pt3]
   exact K_0_1_2_3_7_9.out _ _ _ _ hw
  ·
   skip
   go_simp
   have hw:=al18_4 [] [e18_7 g7,e18_9 g9] HW.out
   refine hK.out _ _ hw.1 (fun hHeld => ?_)
   try simp only [Act.put,pt1,pt2,pt3]
   exact K_1_2_3_4_7_9.out _ _ _ _ hw
 intro key
 (try dsimp only [Act.put] at key); try simp only [pt1,pt2,pt3] at key
 have K_1_2_3_7_9:=Lib.hid key
 clear key
 refine memo (fun a G => ∀ (wn:World) (g0 g4:Nat),Fs18 wc wn [e18_0 g0,e18_4 g4]→G (((((a.put (some 5) (.slice (some ⟨g0,0,none⟩) 2 2)).put (some 6) t18_1).put (some 7) t18_2).put (some 8) t18_3).put (some 9) (.slice (some ⟨g4,0,none⟩) 3 3)) wn) 4 #[true,true,true,true,true,true,true,false,false,false,false] ?_ ?_
 ·
  try simp only [Act.put,pt1,pt2,pt3]; try simp only [t18_1,t18_2,t18_3]
  intro wn g0 g4 HW
  have HW:=Lib.hid HW
  refine wpAnyH_ready (rs:=[7,9]) (by kernel_rfl) (by simp) (rc (fun K hK => ?_) (rc (fun K hK => ?_) AllReadyH.nil))
  ·
   skip
   go_simp
   have hw:=al18_7 [e18_0 g0,e18_4 g4] [] HW.out
   refine hK.out _ _ hw.1 (fun hHeld => ?_)
   try simp only [Act.put,pt1,pt2,pt3]
   exact K_0_1_2_3_4_7.out _ _ _ _ hw
  ·
   skip
   go_simp
   have hw:=al18_9 [e18_0 g0,e18_4 g4] [] HW.out
   refine hK.out _ _ hw.1 (fun hHeld => ?_)
   try simp only [Act.put,pt1,pt2,pt3]
   exact K_0_1_2_3_4_9.out _ _ _ _ hw
 intro key
 (try dsimp only [Act.put] at key); try simp only [pt1,pt2,pt3] at key
 have K_0_1_2_3_4:=Lib.hid key
 clear key
 refine memo (fun a G => ∀ (wn:World) (g4 g7:Nat),Fs18 wc wn [e18_4 g4,e18_7 g7]→G (((((a.put (some 6) t18_1).put (some 7) t18_2).put (some 8) t18_3).put (some 9) (.slice (some ⟨g4,0,none⟩) 3 3)).put (some 12) (.slice (some ⟨g7,0,none⟩) 2 2)) wn) 4 #[false,true,true,true,true,true,true,true,false,false,false] ?_ ?_
 ·
  try simp only [Act.put,pt1,pt2,pt3]; try simp only [t18_1,t18_2,t18_3]
  intro wn g4 g7 HW
  have HW:=Lib.hid HW
  refine wpAnyH_ready (rs:=[0,9]) (by kernel_rfl) (by simp) (rc (fun K hK => ?_) (rc (fun K hK => ?_) AllReadyH.nil))
  ·
   skip
   go_simp
   have hw:=al18_0 [] [e18_4 g4,e18_7 g7] HW.out
   refine hK.out _ _ hw.1 (fun hHeld => ?_)
   try simp only [Act.put,pt1,pt2,pt3]
   exact K_0_1_2_3_4_7.out _ _ _ _ hw
  ·
   skip
   go_simp
   have hw:=al18_9 [e18_4 g4,e18_7 g7] [] HW.out
   refine hK.out _ _ hw.1 (fun hHeld => ?_)
   try simp only [Act.put,pt1,pt2,pt3]
   exact K_1_2_3_4_7_9.out _ _ _ _ hw
 intro key
 (try dsimp only [Act.put] at key); try simp only [pt1,pt2,pt3] at key
 have K_1_2_3_4_7:=Lib.hid key
 clear key
 refine memo (fun a G => ∀ (wn:World) (g4 g9:Nat),Fs18 wc wn [e18_4 g4,e18_9 g9]→G (((((a.put (some 6) t18_1).put (some 7) t18_2).put (some 8) t18_3).put (some 9) (.slice (some ⟨g4,0,none⟩) 3 3)).put (some 2) (.pointer (some ⟨g9,0,none⟩))) wn) 4 #[false,true,true,true,true,true,true,false,false,true,false] ?_ ?_
 ·
  try simp only [Act.put,pt1,pt2,pt3]; try simp only [t18_1,t18_2,t18_3]
  intro wn g4 g9 HW
  have HW:=Lib.hid HW
  refine wpAnyH_ready (rs:=[0,7]) (by kernel_rfl) (by simp) (rc (fun K hK => ?_) (rc (fun K hK => ?_) AllReadyH.nil))
  ·
   skip
   go_simp
   have hw:=al18_0 [] [e18_4 g4,e18_9 g9] HW.out
   refine hK.out _ _ hw.1 (fun hHeld => ?_)
   try simp only [Act.put,pt1,pt2,pt3]
   exact K_0_1_2_3_4_9.out _ _ _ _ hw
  ·
   skip
   go_simp
   have hw:=al18_7 [e18_4 g4] [e18_9 g9] HW.out
   refine hK.out _ _ hw.1 (fun hHeld => ?_)
   try simp only [Act.put,pt1,pt2,pt3]
   exact K_1_2_3_4_7_9.out _ _ _ _ hw
 intro key
 (try dsimp only [Act.put] at key); try simp only [pt1,pt2,pt3] at key
 have K_1_2_3_4_9:=Lib.hid key
 clear key
 refine memo (fun a G => ∀ (wn:World) (g0 g7 g9:Nat),Fs18 wc wn [e18_0 g0,e18_7 g7,e18_9 g9]→G ((((a.put (some 5) (.slice (some ⟨g0,0,none⟩) 2 2)).put (some 6) t18_1).put (some 12) (.slice (some ⟨g7,0,none⟩) 2 2)).put (some 2) (.pointer (some ⟨g9,0,none⟩))) wn) 5 #[true,true,false,false,false,true,true,true,false,true,false] ?_ ?_
 ·
  try simp only [Act.put,pt1,pt2,pt3]; try simp only [t18_1,t18_2,t18_3]
  intro wn g0 g7 g9 HW
  have HW:=Lib.hid HW
  refine rdy 2 (fun K hK => ?_)
  go_simp
  refine (share18l _ _ _ _ _).mono ?_
  rintro en w2 ⟨rfl,hb⟩
  have hw:=HW.out.ca hb
  refine hK.out _ _ hw.1 (fun hHeld => ?_)
  try simp only [Act.put,pt1,pt2,pt3]
  exact K_0_1_2_7_9.out _ _ _ _ hw
 intro key
 (try dsimp only [Act.put] at key); try simp only [pt1,pt2,pt3] at key
 have K_0_1_7_9:=Lib.hid key
 clear key
 refine memo (fun a G => ∀ (wn:World) (g0 g7:Nat),Fs18 wc wn [e18_0 g0,e18_7 g7]→G ((((a.put (some 5) (.slice (some ⟨g0,0,none⟩) 2 2)).put (some 6) t18_1).put (some 7) t18_2).put (some 12) (.slice (some ⟨g7,0,none⟩) 2 2)) wn) 5 #[true,true,true,false,false,true,true,true,false,false,false] ?_ ?_
 ·
  try simp only [Act.put,pt1,pt2,pt3]; try simp only [t18_1,t18_2,t18_3]
  intro wn g0 g7 HW
  have HW:=Lib.hid HW
  refine wpAnyH_ready (rs:=[3,9]) (by kernel_rfl) (by simp) (rc (fun K hK => ?_) (rc (fun K hK => ?_) AllReadyH.nil))
  ·
   skip
   go_simp
   refine (share18l _ _ _ _ _).mono ?_
   rintro en w2 ⟨rfl,hb⟩
   have hw:=HW.out.ca hb
   refine hK.out _ _ hw.1 (fun hHeld => ?_)
   try simp only [Act.put,pt1,pt2,pt3]
   exact K_0_1_2_3_7.out _ _ _ hw
  ·
   skip
   go_simp
   have hw:=al18_9 [e18_0 g0,e18_7 g7] [] HW.out
   refine hK.out _ _ hw.1 (fun hHeld => ?_)
   try simp only [Act.put,pt1,pt2,pt3]
   exact K_0_1_2_7_9.out _ _ _ _ hw
 intro key
 (try dsimp only [Act.put] at key); try simp only [pt1,pt2,pt3] at key
 have K_0_1_2_7:=Lib.hid key
 clear key
 refine memo (fun a G => ∀ (wn:World) (g0 g9:Nat),Fs18 wc wn [e18_0 g0,e18_9 g9]→G ((((a.put (some 5) (.slice (some ⟨g0,0,none⟩) 2 2)).put (some 6) t18_1).put (some 7) t18_2).put (some 2) (.pointer (some ⟨g9,0,none⟩))) wn) 5 #[true,true,true,false,false,true,true,false,false,true,false] ?_ ?_
 ·
  try simp only [Act.put,pt1,pt2,pt3]; try simp only [t18_1,t18_2,t18_3]
  intro wn g0 g9 HW
  have HW:=Lib.hid HW
  refine wpAnyH_ready (rs:=[3,7]) (by kernel_rfl) (by simp) (rc (fun K hK => ?_) (rc (fun K hK => ?_) AllReadyH.nil))
  ·
   skip
   go_simp
   refine (share18l _ _ _ _ _).mono ?_
   rintro en w2 ⟨rfl,hb⟩
   have hw:=HW.out.ca hb
   refine hK.out _ _ hw.1 (fun hHeld => ?_)
   try simp only [Act.put,pt1,pt2,pt3]
   exact K_0_1_2_3_9.out _ _ _ hw
  ·
   skip
   go_simp
   have hw:=al18_7 [e18_0 g0] [e18_9 g9] HW.out
   refine hK.out _ _ hw.1 (fun hHeld => ?_)
   try simp only [Act.put,pt1,pt2,pt3]
   exact K_0_1_2_7_9.out _ _ _ _ hw
 intro key
 (try dsimp only [Act.put] at key); try simp only [pt1,pt2,pt3] at key
 have K_0_1_2_9:=Lib.hid key
 clear key
 refine memo (fun a G => ∀ (wn:World) (g7 g9:Nat),Fs18 wc wn [e18_7 g7,e18_9 g9]→G ((((a.put (some 6) t18_1).put (some 7) t18_2).put (some 12) (.slice (some ⟨g7,0,none⟩) 2 2)).put (some 2) (.pointer (some ⟨g9,0,none⟩))) wn) 5 #[false,true,true,false,false,true,true,true,false,true,false] ?_ ?_
 ·
  try simp only [Act.put,pt1,pt2,pt3]; try simp only [t18_1,t18_2,t18_3]
  intro wn g7 g9 HW
  have HW:=Lib.hid HW
  refine wpAnyH_ready (rs:=[0,3]) (by kernel_rfl) (by simp) (rc (fun K hK => ?_) (rc (fun K hK => ?_) AllReadyH.nil))
  ·
   skip
   go_simp
   have hw:=al18_0 [] [e18_7 g7,e18_9 g9] HW.out
   refine hK.out _ _ hw.1 (fun hHeld => ?_)
   try simp only [Act.put,pt1,pt2,pt3]
   exact K_0_1_2_7_9.out _ _ _ _ hw
  ·
   skip
   go_simp
   refine (share18l _ _ _ _ _).mono ?_
   rintro en w2 ⟨rfl,hb⟩
   have hw:=HW.out.ca hb
   refine hK.out _ _ hw.1 (fun hHeld => ?_)
   try simp only [Act.put,pt1,pt2,pt3]
   exact K_1_2_3_7_9.out _ _ _ hw
 intro key
 (try dsimp only [Act.put] at key); try simp only [pt1,pt2,pt3] at key
 have K_1_2_7_9:=Lib.hid key
 clear key
 refine memo (fun a G => ∀ (wn:World) (g0:Nat),Fs18 wc wn [e18_0 g0]→G ((((a.put (some 5) (.slice (some ⟨g0,0,none⟩) 2 2)).put (some 6) t18_1).put (some 7) t18_2).put (some 8) t18_3) wn) 5 #[true,true,true,true,false,true,true,false,false,false,false] ?_ ?_
 ·
  try simp only [Act.put,pt1,pt2,pt3]; try simp only [t18_1,t18_2,t18_3]
  intro wn g0 HW
  have HW:=Lib.hid HW
  refine wpAnyH_ready (rs:=[4,7,9]) (by kernel_rfl) (by simp) (rc (fun K hK => ?_) (rc (fun K hK => ?_) (rc (fun K hK => ?_) AllReadyH.nil)))
  ·
   skip
   go_simp
   have hw:=al18_4 [e18_0 g0] [] HW.out
   refine hK.out _ _ hw.1 (fun hHeld => ?_)
   try simp only [Act.put,pt1,pt2,pt3]
   exact K_0_1_2_3_4.out _ _ _ hw
  ·
   skip
   go_simp
   have hw:=al18_7 [e18_0 g0] [] HW.out
   refine hK.out _ _ hw.1 (fun hHeld => ?_)
   try simp only [Act.put,pt1,pt2,pt3]
   exact K_0_1_2_3_7.out _ _ _ hw
  ·
   skip
   go_simp
   have hw:=al18_9 [e18_0 g0] [] HW.out
   refine hK.out _ _ hw.1 (fun hHeld => ?_)
   try simp only [Act.put,pt1,pt2,pt3]
   exact K_0_1_2_3_9.out _ _ _ hw
 intro key
 (try dsimp only [Act.put] at key); try simp only [pt1,pt2,pt3] at key
 have K_0_1_2_3:=Lib.hid key
 clear key
 refine memo (fun a G => ∀ (wn:World) (g7:Nat),Fs18 wc wn [e18_7 g7]→G ((((a.put (some 6) t18_1).put (some 7) t18_2).put (some 8) t18_3).put (some 12) (.slice (some ⟨g7,0,none⟩) 2 2)) wn) 5 #[false,true,true,true,false,true,true,true,false,false,false] ?_ ?_
 ·
  try simp only [Act.put,pt1,pt2,pt3]; try simp only [t18_1,t18_2,t18_3]
  intro wn g7 HW
  have HW:=Lib.hid HW
  refine wpAnyH_ready (rs:=[0,4,9]) (by kernel_rfl) (by simp) (rc (fun K hK => ?_) (rc (fun K hK => ?_) (rc (fun K hK => ?_) AllReadyH.nil)))
  ·
   skip
   go_simp
   have hw:=al18_0 [] [e18_7 g7] HW.out
   refine hK.out _ _ hw.1 (fun hHeld => ?_)
   try simp only [Act.put,pt1,pt2,pt3]
   exact K_0_1_2_3_7.out _ _ _ hw
  ·
   skip
   go_simp
   have hw:=al18_4 [] [e18_7 g7] HW.out
   refine hK.out _ _ hw.1 (fun hHeld => ?_)
   try simp only [Act.put,pt1,pt2,pt3]
   exact K_1_2_3_4_7.out _ _ _ hw
  ·
   skip
   go_simp
   have hw:=al18_9 [e18_7 g7] [] HW.out
   refine hK.out _ _ hw.1 (fun hHeld => ?_)
   try simp only [Act.put,pt1,pt2,pt3]
   exact K_1_2_3_7_9.out _ _ _ hw
 intro key
 (try dsimp only [Act.put] at key); try simp only [pt1,pt2,pt3] at key
 have K_1_2_3_7:=Lib.hid key
 clear key
 refine memo (fun a G => ∀ (wn:World) (g9:Nat),Fs18 wc wn [e18_9 g9]→G ((((a.put (some 6) t18_1).put (some 7) t18_2).put (some 8) t18_3).put (some 2) (.pointer (some ⟨g9,0,none⟩))) wn) 5 #[false,true,true,true,false,true,true,false,false,true,false] ?_ ?_
 ·
  try simp only [Act.put,pt1,pt2,pt3]; try simp only [t18_1,t18_2,t18_3]
  intro wn g9 HW
  have HW:=Lib.hid HW
  refine wpAnyH_ready (rs:=[0,4,7]) (by kernel_rfl) (by simp) (rc (fun K hK => ?_) (rc (fun K hK => ?_) (rc (fun K hK => ?_) AllReadyH.nil)))
  ·
   skip
   go_simp
   have hw:=al18_0 [] [e18_9 g9] HW.out
   refine hK.out _ _ hw.1 (fun hHeld => ?_)
   try simp only [Act.put,pt1,pt2,pt3]
   exact K_0_1_2_3_9.out _ _ _ hw
  ·
   skip
   go_simp
   have hw:=al18_4 [] [e18_9 g9] HW.out
   refine hK.out _ _ hw.1 (fun hHeld => ?_)
   try simp only [Act.put,pt1,pt2,pt3]
   exact K_1_2_3_4_9.out _ _ _ hw
  ·
   skip
   go_simp
   have hw:=al18_7 [] [e18_9 g9] HW.out
   refine hK.out _ _ hw.1 (fun hHeld => ?_)
   try simp only [Act.put,pt1,pt2,pt3]
   exact K_1_2_3_7_9.out _ _ _ hw
 intro key
 (try dsimp only [Act.put] at key); try simp only [pt1,pt2,pt3] at key
 have K_1_2_3_9:=Lib.hid key
 clear key
 refine memo (fun a G => ∀ (wn:World) (g4:Nat),Fs18 wc wn [e18_4 g4]→G ((((a.put (some 6) t18_1).put (some 7) t18_2).put (some 8) t18_3).put (some 9) (.slice (some ⟨g4,0,none⟩) 3 3)) wn) 5 #[false,true,true,true,true,true,true,false,false,false,false] ?_ ?_
 ·
  try simp only [Act.put,pt1,pt2,pt3]; try simp only [t18_1,t18_2,t18_3]
  intro wn g4 HW
  have HW:=Lib.hid HW
  refine wpAnyH_ready (rs:=[0,7,9]) (by kernel_rfl) (by simp) (rc (fun K hK => ?_) (rc (fun K hK => ?_) (rc (fun K hK => ?_) AllReadyH.nil)))
  ·
   skip
   go_simp
   have hw:=al18_0 [] [e18_4 g4] HW.out
   refine hK.out _ _ hw.1 (fun hHeld => ?_)
   try simp only [Act.put,pt1,pt2,pt3]
   exact K_0_1_2_3_4.out _ _ _ hw
  ·
   skip
   go_simp
   have hw:=al18_7 [e18_4 g4] [] HW.out
   refine hK.out _ _ hw.1 (fun hHeld => ?_)
   try simp only [Act.put,pt1,pt2,pt3]
   exact K_1_2_3_4_7.out _ _ _ hw
  ·
   skip
   go_simp
   have hw:=al18_9 [e18_4 g4] [] HW.out
   refine hK.out _ _ hw.1 (fun hHeld => ?_)
   try simp only [Act.put,pt1,pt2,pt3]
   exact K_1_2_3_4_9.out _ _ _ hw
 intro key
 (try dsimp only [Act.put] at key); try simp only [pt1,pt2,pt3] at key
 have K_1_2_3_4:=Lib.hid key
 clear key
 refine memo (fun a G => ∀ (wn:World) (g0 g7 g9:Nat),Fs18 wc wn [e18_0 g0,e18_7 g7,e18_9 g9]→G (((a.put (some 5) (.slice (some ⟨g0,0,none⟩) 2 2)).put (some 12) (.slice (some ⟨g7,0,none⟩) 2 2)).put (some 2) (.pointer (some ⟨g9,0,none⟩))) wn) 6 #[true,false,false,false,false,true,true,true,false,true,false] ?_ ?_
 ·
  try simp only [Act.put,pt1,pt2,pt3]
  intro wn g0 g7 g9 HW
  have HW:=Lib.hid HW
  refine rdy 1 (fun K hK => ?_)
  go_simp
  refine (share18l _ _ _ _ _).mono ?_
  rintro en w2 ⟨rfl,hb⟩
  have hw:=HW.out.ca hb
  refine hK.out _ _ hw.1 (fun hHeld => ?_)
  try simp only [Act.put,pt1,pt2,pt3]
  exact K_0_1_7_9.out _ _ _ _ hw
 intro key
 (try dsimp only [Act.put] at key); try simp only [pt1,pt2,pt3] at key
 have K_0_7_9:=Lib.hid key
 clear key
 refine memo (fun a G => ∀ (wn:World) (g0 g7:Nat),Fs18 wc wn [e18_0 g0,e18_7 g7]→G (((a.put (some 5) (.slice (some ⟨g0,0,none⟩) 2 2)).put (some 6) t18_1).put (some 12) (.slice (some ⟨g7,0,none⟩) 2 2)) wn) 6 #[true,true,false,false,false,true,true,true,false,false,false] ?_ ?_
 ·
  try simp only [Act.put,pt1,pt2,pt3]; try simp only [t18_1,t18_2,t18_3]
  intro wn g0 g7 HW
  have HW:=Lib.hid HW
  refine wpAnyH_ready (rs:=[2,9]) (by kernel_rfl) (by simp) (rc (fun K hK => ?_) (rc (fun K hK => ?_) AllReadyH.nil))
  ·
   skip
   go_simp
   refine (share18l _ _ _ _ _).mono ?_
   rintro en w2 ⟨rfl,hb⟩
   have hw:=HW.out.ca hb
   refine hK.out _ _ hw.1 (fun hHeld => ?_)
   try simp only [Act.put,pt1,pt2,pt3]
   exact K_0_1_2_7.out _ _ _ hw
  ·
   skip
   go_simp
   have hw:=al18_9 [e18_0 g0,e18_7 g7] [] HW.out
   refine hK.out _ _ hw.1 (fun hHeld => ?_)
   try simp only [Act.put,pt1,pt2,pt3]
   exact K_0_1_7_9.out _ _ _ _ hw
 intro key
 (try dsimp only [Act.put] at key); try simp only [pt1,pt2,pt3] at key
 have K_0_1_7:=Lib.hid key
 clear key
 refine memo (fun a G => ∀ (wn:World) (g0 g9:Nat),Fs18 wc wn [e18_0 g0,e18_9 g9]→G (((a.put (some 5) (.slice (some ⟨g0,0,none⟩) 2 2)).put (some 6) t18_1).put (some 2) (.pointer (some ⟨g9,0,none⟩))) wn) 6 #[true,true,false,false,false,true,true,false,false,true,false] ?_ ?_
 ·
  try simp only [Act.put,pt1,pt2,pt3]; try simp only [t18_1,t18_2,t18_3]
  intro wn g0 g9 HW
  have HW:=Lib.hid HW
  refine wpAnyH_ready (rs:=[2,7]) (by kernel_rfl) (by simp) (rc (fun K hK => ?_) (rc (fun K hK => ?_) AllReadyH.nil))
  ·
   skip
   go_simp
   refine (share18l _ _ _ _ _).mono ?_
   rintro en w2 ⟨rfl,hb⟩
   have hw:=HW.out.ca hb
   refine hK.out _ _ hw.1 (fun hHeld => ?_)
   try simp only [Act.put,pt1,pt2,pt3]
   exact K_0_1_2_9.out _ _ _ hw
  ·
   skip
   go_simp
   have hw:=al18_7 [e18_0 g0] [e18_9 g9] HW.out
   refine hK.out _ _ hw.1 (fun hHeld => ?_)
   try simp only [Act.put,pt1,pt2,pt3]
   exact K_0_1_7_9.out _ _ _ _ hw
 intro key
 (try dsimp only [Act.put] at key); try simp only [pt1,pt2,pt3] at key
 have K_0_1_9:=Lib.hid key
 clear key
 refine memo (fun a G => ∀ (wn:World) (g7 g9:Nat),Fs18 wc wn [e18_7 g7,e18_9 g9]→G (((a.put (some 6) t18_1).put (some 12) (.slice (some ⟨g7,0,none⟩) 2 2)).put (some 2) (.pointer (some ⟨g9,0,none⟩))) wn) 6 #[false,true,false,false,false,true,true,true,false,true,false] ?_ ?_
 ·
  try simp only [Act.put,pt1,pt2,pt3]; try simp only [t18_1,t18_2,t18_3]
  intro wn g7 g9 HW
  have HW:=Lib.hid HW
  refine wpAnyH_ready (rs:=[0,2]) (by kernel_rfl) (by simp) (rc (fun K hK => ?_) (rc (fun K hK => ?_) AllReadyH.nil))
  ·
   skip
   go_simp
   have hw:=al18_0 [] [e18_7 g7,e18_9 g9] HW.out
   refine hK.out _ _ hw.1 (fun hHeld => ?_)
   try simp only [Act.put,pt1,pt2,pt3]
   exact K_0_1_7_9.out _ _ _ _ hw
  ·
   skip
   go_simp
   refine (share18l _ _ _ _ _).mono ?_
   rintro en w2 ⟨rfl,hb⟩
   have hw:=HW.out.ca hb
   refine hK.out _ _ hw.1 (fun hHeld => ?_)
   try simp only [Act.put,pt1,pt2,pt3]
   exact K_1_2_7_9.out _ _ _ hw
 intro key
 (try dsimp only [Act.put] at key); try simp only [pt1,pt2,pt3] at key
 have K_1_7_9:=Lib.hid key
 clear key
 refine memo (fun a G => ∀ (wn:World) (g0:Nat),Fs18 wc wn [e18_0 g0]→G (((a.put (some 5) (.slice (some ⟨g0,0,none⟩) 2 2)).put (some 6) t18_1).put (some 7) t18_2) wn) 6 #[true,true,true,false,false,true,true,false,false,false,false] ?_ ?_
 ·
  try simp only [Act.put,pt1,pt2,pt3]; try simp only [t18_1,t18_2,t18_3]
  intro wn g0 HW
  have HW:=Lib.hid HW
  refine wpAnyH_ready (rs:=[3,7,9]) (by kernel_rfl) (by simp) (rc (fun K hK => ?_) (rc (fun K hK => ?_) (rc (fun K hK => ?_) AllReadyH.nil)))
  ·
   skip
   go_simp
   refine (share18l _ _ _ _ _).mono ?_
   rintro en w2 ⟨rfl,hb⟩
   have hw:=HW.out.ca hb
   refine hK.out _ _ hw.1 (fun hHeld => ?_)
   try simp only [Act.put,pt1,pt2,pt3]
   exact K_0_1_2_3.out _ _ hw
  ·
   skip
   go_simp
   have hw:=al18_7 [e18_0 g0] [] HW.out
   refine hK.out _ _ hw.1 (fun hHeld => ?_)
   try simp only [Act.put,pt1,pt2,pt3]
   exact K_0_1_2_7.out _ _ _ hw
  ·
   skip
   go_simp
   have hw:=al18_9 [e18_0 g0] [] HW.out
   refine hK.out _ _ hw.1 (fun hHeld => ?_)
   try simp only [Act.put,pt1,pt2,pt3]
   exact K_0_1_2_9.out _ _ _ hw
 intro key
 (try dsimp only [Act.put] at key); try simp only [pt1,pt2,pt3] at key
 have K_0_1_2:=Lib.hid key
 clear key
 refine memo (fun a G => ∀ (wn:World) (g7:Nat),Fs18 wc wn [e18_7 g7]→G (((a.put (some 6) t18_1).put (some 7) t18_2).put (some 12) (.slice (some ⟨g7,0,none⟩) 2 2)) wn) 6 #[false,true,true,false,false,true,true,true,false,false,false] ?_ ?_
 ·
  try simp only [Act.put,pt1,pt2,pt3]; try simp only [t18_1,t18_2,t18_3]
  intro wn g7 HW
  have HW:=Lib.hid HW
  refine wpAnyH_ready (rs:=[0,3,9]) (by kernel_rfl) (by simp) (rc (fun K hK => ?_) (rc (fun K hK => ?_) (rc (fun K hK => ?_) AllReadyH.nil)))
  ·
   skip
   go_simp
   have hw:=al18_0 [] [e18_7 g7] HW.out
   refine hK.out _ _ hw.1 (fun hHeld => ?_)
   try simp only [Act.put,pt1,pt2,pt3]
   exact K_0_1_2_7.out _ _ _ hw
  ·
   skip
   go_simp
   refine (share18l _ _ _ _ _).mono ?_
   rintro en w2 ⟨rfl,hb⟩
   have hw:=HW.out.ca hb
   refine hK.out _ _ hw.1 (fun hHeld => ?_)
   try simp only [Act.put,pt1,pt2,pt3]
   exact K_1_2_3_7.out _ _ hw
  ·
   skip
   go_simp
   have hw:=al18_9 [e18_7 g7] [] HW.out
   refine hK.out _ _ hw.1 (fun hHeld => ?_)
   try simp only [Act.put,pt1,pt2,pt3]
   exact K_1_2_7_9.out _ _ _ hw
 intro key
 (try dsimp only [Act.put] at key); try simp only [pt1,pt2,pt3] at key
 have K_1_2_7:=Lib.hid key
 clear key
 refine memo (fun a G => ∀ (wn:World) (g9:Nat),Fs18 wc wn [e18_9 g9]→G (((a.put (some 6) t18_1).put (some 7) t18_2).put (some 2) (.pointer (some ⟨g9,0,none⟩))) wn) 6 #[false,true,true,false,false,true,true,false,false,true,false] ?_ ?_
 ·
  try simp only [Act.put,pt1,pt2,pt3]; try simp only [t18_1,t18_2,t18_3]
  intro wn g9 HW
  have HW:=Lib.hid HW
  refine wpAnyH_ready (rs:=[0,3,7]) (by kernel_rfl) (by simp) (rc (fun K hK => ?_) (rc (fun K hK => ?_) (rc (fun K hK => ?_) AllReadyH.nil)))
  ·
   skip
   go_simp
   have hw:=al18_0 [] [e18_9 g9] HW.out
   refine hK.out _ _ hw.1 (fun hHeld => ?_)
   try simp only [Act.put,pt1,pt2,pt3]
   exact K_0_1_2_9.out _ _ _ hw
  ·
   skip
   go_simp
   refine (share18l _ _ _ _ _).mono ?_
   rintro en w2 ⟨rfl,hb⟩
   have hw:=HW.out.ca hb
   refine hK.out _ _ hw.1 (fun hHeld => ?_)
   try simp only [Act.put,pt1,pt2,pt3]
   exact K_1_2_3_9.out _ _ hw
  ·
   skip
   go_simp
   have hw:=al18_7 [] [e18_9 g9] HW.out
   refine hK.out _ _ hw.1 (fun hHeld => ?_)
   try simp only [Act.put,pt1,pt2,pt3]
   exact K_1_2_7_9.out _ _ _ hw
 intro key
 (try dsimp only [Act.put] at key); try simp only [pt1,pt2,pt3] at key
 have K_1_2_9:=Lib.hid key
 clear key
 refine memo (fun a G => ∀ (wn:World),Fs18 wc wn []→G (((a.put (some 6) t18_1).put (some 7) t18_2).put (some 8) t18_3) wn) 6 #[false,true,true,true,false,true,true,false,false,false,false] ?_ ?_
 ·
  try simp only [Act.put,pt1,pt2,pt3]; try simp only [t18_1,t18_2,t18_3]
  intro wn HW
  have HW:=Lib.hid HW
  refine wpAnyH_ready (rs:=[0,4,7,9]) (by kernel_rfl) (by simp) (rc (fun K hK => ?_) (rc (fun K hK => ?_) (rc (fun K hK => ?_) (rc (fun K hK => ?_) AllReadyH.nil))))
  ·
   skip
   go_simp
   have hw:=al18_0 [] [] HW.out
   refine hK.out _ _ hw.1 (fun hHeld => ?_)
   try simp only [Act.put,pt1,pt2,pt3]
   exact K_0_1_2_3.out _ _ hw
  ·
   skip
   go_simp
   have hw:=al18_4 [] [] HW.out
   refine hK.out _ _ hw.1 (fun hHeld => ?_)
   try simp only [Act.put,pt1,pt2,pt3]
   exact K_1_2_3_4.out _ _ hw
  ·
   skip
   go_simp
   have hw:=al18_7 [] [] HW.out
   refine hK.out _ _ hw.1 (fun hHeld => ?_)
   try simp only [Act.put,pt1,pt2,pt3]
   exact K_1_2_3_7.out _ _ hw
  ·
   skip
   go_simp
   have hw:=al18_9 [] [] HW.out
   refine hK.out _ _ hw.1 (fun hHeld => ?_)
   try simp only [Act.put,pt1,pt2,pt3]
   exact K_1_2_3_9.out _ _ hw
 intro key
 (try dsimp only [Act.put] at key); try simp only [pt1,pt2,pt3] at key
 have K_1_2_3:=Lib.hid key
 clear key
 refine memo (fun a G => ∀ (wn:World) (g0 g7:Nat),Fs18 wc wn [e18_0 g0,e18_7 g7]→G ((a.put (some 5) (.slice (some ⟨g0,0,none⟩) 2 2)).put (some 12) (.slice (some ⟨g7,0,none⟩) 2 2)) wn) 7 #[true,false,false,false,false,true,true,true,false,false,false] ?_ ?_
 ·
  try simp only [Act.put,pt1,pt2,pt3]
  intro wn g0 g7 HW
  have HW:=Lib.hid HW
  refine wpAnyH_ready (rs:=[1,9]) (by kernel_rfl) (by simp) (rc (fun K hK => ?_) (rc (fun K hK => ?_) AllReadyH.nil))
  ·
   skip
   go_simp
   refine (share18l _ _ _ _ _).mono ?_
   rintro en w2 ⟨rfl,hb⟩
   have hw:=HW.out.ca hb
   refine hK.out _ _ hw.1 (fun hHeld => ?_)
   try simp only [Act.put,pt1,pt2,pt3]
   exact K_0_1_7.out _ _ _ hw
  ·
   skip
   go_simp
   have hw:=al18_9 [e18_0 g0,e18_7 g7] [] HW.out
   refine hK.out _ _ hw.1 (fun hHeld => ?_)
   try simp only [Act.put,pt1,pt2,pt3]
   exact K_0_7_9.out _ _ _ _ hw
 intro key
 (try dsimp only [Act.put] at key); try simp only [pt1,pt2,pt3] at key
 have K_0_7:=Lib.hid key
 clear key
 refine memo (fun a G => ∀ (wn:World) (g0 g9:Nat),Fs18 wc wn [e18_0 g0,e18_9 g9]→G ((a.put (some 5) (.slice (some ⟨g0,0,none⟩) 2 2)).put (some 2) (.pointer (some ⟨g9,0,none⟩))) wn) 7 #[true,false,false,false,false,true,true,false,false,true,false] ?_ ?_
 ·
  try simp only [Act.put,pt1,pt2,pt3]
  intro wn g0 g9 HW
  have HW:=Lib.hid HW
  refine wpAnyH_ready (rs:=[1,7]) (by kernel_rfl) (by simp) (rc (fun K hK => ?_) (rc (fun K hK => ?_) AllReadyH.nil))
  ·
   skip
   go_simp
   refine (share18l _ _ _ _ _).mono ?_
   rintro en w2 ⟨rfl,hb⟩
   have hw:=HW.out.ca hb
   refine hK.out _ _ hw.1 (fun hHeld => ?_)
   try simp only [Act.put,pt1,pt2,pt3]
   exact K_0_1_9.out _ _ _ hw
  ·
   skip
   go_simp
   have hw:=al18_7 [e18_0 g0] [e18_9 g9] HW.out
   refine hK.out _ _ hw.1 (fun hHeld => ?_)
   try simp only [Act.put,pt1,pt2,pt3]
   exact K_0_7_9.out _ _ _ _ hw
 intro key
 (try dsimp only [Act.put] at key); try simp only [pt1,pt2,pt3] at key
 have K_0_9:=Lib.hid key
 clear key
 refine memo (fun a G => ∀ (wn:World) (g7 g9:Nat),Fs18 wc wn [e18_7 g7,e18_9 g9]→G ((a.put (some 12) (.slice (some ⟨g7,0,none⟩) 2 2)).put (some 2) (.pointer (some ⟨g9,0,none⟩))) wn) 7 #[false,false,false,false,false,true,true,true,false,true,false] ?_ ?_
 ·
  try simp only [Act.put,pt1,pt2,pt3]
  intro wn g7 g9 HW
  have HW:=Lib.hid HW
  refine wpAnyH_ready (rs:=[0,1]) (by kernel_rfl) (by simp) (rc (fun K hK => ?_) (rc (fun K hK => ?_) AllReadyH.nil))
  ·
   skip
   go_simp
   have hw:=al18_0 [] [e18_7 g7,e18_9 g9] HW.out
   refine hK.out _ _ hw.1 (fun hHeld => ?_)
   try simp only [Act.put,pt1,pt2,pt3]
   exact K_0_7_9.out _ _ _ _ hw
  ·
   skip
   go_simp
   refine (share18l _ _ _ _ _).mono ?_
   rintro en w2 ⟨rfl,hb⟩
   have hw:=HW.out.ca hb
   refine hK.out _ _ hw.1 (fun hHeld => ?_)
   try simp only [Act.put,pt1,pt2,pt3]
   exact K_1_7_9.out _ _ _ hw
 intro key
 (try dsimp only [Act.put] at key); try simp only [pt1,pt2,pt3] at key
 have K_7_9:=Lib.hid key
 clear key
 refine memo (fun a G => ∀ (wn:World) (g0:Nat),Fs18 wc wn [e18_0 g0]→G ((a.put (some 5) (.slice (some ⟨g0,0,none⟩) 2 2)).put (some 6) t18_1) wn) 7 #[true,true,false,false,false,true,true,false,false,false,false] ?_ ?_
 ·
  try simp only [Act.put,pt1,pt2,pt3]; try simp only [t18_1,t18_2,t18_3]
  intro wn g0 HW
  have HW:=Lib.hid HW
  refine wpAnyH_ready (rs:=[2,7,9]) (by kernel_rfl) (by simp) (rc (fun K hK => ?_) (rc (fun K hK => ?_) (rc (fun K hK => ?_) AllReadyH.nil)))
  ·
   skip
   go_simp
   refine (share18l _ _ _ _ _).mono ?_
   rintro en w2 ⟨rfl,hb⟩
   have hw:=HW.out.ca hb
   refine hK.out _ _ hw.1 (fun hHeld => ?_)
   try simp only [Act.put,pt1,pt2,pt3]
   exact K_0_1_2.out _ _ hw
  ·
   skip
   go_simp
   have hw:=al18_7 [e18_0 g0] [] HW.out
   refine hK.out _ _ hw.1 (fun hHeld => ?_)
   try simp only [Act.put,pt1,pt2,pt3]
   exact K_0_1_7.out _ _ _ hw
  ·
   skip
   go_simp
   have hw:=al18_9 [e18_0 g0] [] HW.out
   refine hK.out _ _ hw.1 (fun hHeld => ?_)
   try simp only [Act.put,pt1,pt2,pt3]
   exact K_0_1_9.out _ _ _ hw
 intro key
 (try dsimp only [Act.put] at key); try simp only [pt1,pt2,pt3] at key
 have K_0_1:=Lib.hid key
 clear key
 refine memo (fun a G => ∀ (wn:World) (g7:Nat),Fs18 wc wn [e18_7 g7]→G ((a.put (some 6) t18_1).put (some 12) (.slice (some ⟨g7,0,none⟩) 2 2)) wn) 7 #[false,true,false,false,false,true,true,true,false,false,false] ?_ ?_
 ·
  try simp only [Act.put,pt1,pt2,pt3]; try simp only [t18_1,t18_2,t18_3]
  intro wn g7 HW
  have HW:=Lib.hid HW
  refine wpAnyH_ready (rs:=[0,2,9]) (by kernel_rfl) (by simp) (rc (fun K hK => ?_) (rc (fun K hK => ?_) (rc (fun K hK => ?_) AllReadyH.nil)))
  ·
   skip
   go_simp
   have hw:=al18_0 [] [e18_7 g7] HW.out
   refine hK.out _ _ hw.1 (fun hHeld => ?_)
   try simp only [Act.put,pt1,pt2,pt3]
   exact K_0_1_7.out _ _ _ hw
  ·
   skip
   go_simp
   refine (share18l _ _ _ _ _).mono ?_
   rintro en w2 ⟨rfl,hb⟩
   have hw:=HW.out.ca hb
   refine hK.out _ _ hw.1 (fun hHeld => ?_)
   try simp only [Act.put,pt1,pt2,pt3]
   exact K_1_2_7.out _ _ hw
  ·
   skip
   go_simp
   have hw:=al18_9 [e18_7 g7] [] HW.out
   refine hK.out _ _ hw.1 (fun hHeld => ?_)
   try simp only [Act.put,pt1,pt2,pt3]
   exact K_1_7_9.out _ _ _ hw
 intro key
 (try dsimp only [Act.put] at key); try simp only [pt1,pt2,pt3] at key
 have K_1_7:=Lib.hid key
 clear key
 refine memo (fun a G => ∀ (wn:World) (g9:Nat),Fs18 wc wn [e18_9 g9]→G ((a.put (some 6) t18_1).put (some 2) (.pointer (some ⟨g9,0,none⟩))) wn) 7 #[false,true,false,false,false,true,true,false,false,true,false] ?_ ?_
 ·
  try simp only [Act.put,pt1,pt2,pt3]; try simp only [t18_1,t18_2,t18_3]
  intro wn g9 HW
  have HW:=Lib.hid HW
  refine wpAnyH_ready (rs:=[0,2,7]) (by kernel_rfl) (by simp) (rc (fun K hK => ?_) (rc (fun K hK => ?_) (rc (fun K hK => ?_) AllReadyH.nil)))
  ·
   skip
   go_simp
   have hw:=al18_0 [] [e18_9 g9] HW.out
   refine hK.out _ _ hw.1 (fun hHeld => ?_)
   try simp only [Act.put,pt1,pt2,pt3]
   exact K_0_1_9.out _ _ _ hw
  ·
   skip
   go_simp
   refine (share18l _ _ _ _ _).mono ?_
   rintro en w2 ⟨rfl,hb⟩
   have hw:=HW.out.ca hb
   refine hK.out _ _ hw.1 (fun hHeld => ?_)
   try simp only [Act.put,pt1,pt2,pt3]
   exact K_1_2_9.out _ _ hw
  ·
   skip
   go_simp
   have hw:=al18_7 [] [e18_9 g9] HW.out
   refine hK.out _ _ hw.1 (fun hHeld => ?_)
   try simp only [Act.put,pt1,pt2,pt3]
   exact K_1_7_9.out _ _ _ hw
 intro key
 (try dsimp only [Act.put] at key); try simp only [pt1,pt2,pt3] at key
 have K_1_9:=Lib.hid key
 clear key
 refine memo (fun a G => ∀ (wn:World),Fs18 wc wn []→G ((a.put (some 6) t18_1).put (some 7) t18_2) wn) 7 #[false,true,true,false,false,true,true,false,false,false,false] ?_ ?_
 ·
  try simp only [Act.put,pt1,pt2,pt3]; try simp only [t18_1,t18_2,t18_3]
  intro wn HW
  have HW:=Lib.hid HW
  refine wpAnyH_ready (rs:=[0,3,7,9]) (by kernel_rfl) (by simp) (rc (fun K hK => ?_) (rc (fun K hK => ?_) (rc (fun K hK => ?_) (rc (fun K hK => ?_) AllReadyH.nil))))
  ·
   skip
   go_simp
   have hw:=al18_0 [] [] HW.out
   refine hK.out _ _ hw.1 (fun hHeld => ?_)
   try simp only [Act.put,pt1,pt2,pt3]
   exact K_0_1_2.out _ _ hw
  ·
   skip
   go_simp
   refine (share18l _ _ _ _ _).mono ?_
   rintro en w2 ⟨rfl,hb⟩
   have hw:=HW.out.ca hb
   refine hK.out _ _ hw.1 (fun hHeld => ?_)
   try simp only [Act.put,pt1,pt2,pt3]
   exact K_1_2_3.out _ hw
  ·
   skip
   go_simp
   have hw:=al18_7 [] [] HW.out
   refine hK.out _ _ hw.1 (fun hHeld => ?_)
   try simp only [Act.put,pt1,pt2,pt3]
   exact K_1_2_7.out _ _ hw
  ·
   skip
   go_simp
   have hw:=al18_9 [] [] HW.out
   refine hK.out _ _ hw.1 (fun hHeld => ?_)
   try simp only [Act.put,pt1,pt2,pt3]
   exact K_1_2_9.out _ _ hw
 intro key
 (try dsimp only [Act.put] at key); try simp only [pt1,pt2,pt3] at key
 have K_1_2:=Lib.hid key
 clear key
 refine memo (fun a G => ∀ (wn:World) (g0:Nat),Fs18 wc wn [e18_0 g0]→G (a.put (some 5) (.slice (some ⟨g0,0,none⟩) 2 2)) wn) 8 #[true,false,false,false,false,true,true,false,false,false,false] ?_ ?_
 ·
  try simp only [Act.put,pt1,pt2,pt3]
  intro wn g0 HW
  have HW:=Lib.hid HW
  refine wpAnyH_ready (rs:=[1,7,9]) (by kernel_rfl) (by simp) (rc (fun K hK => ?_) (rc (fun K hK => ?_) (rc (fun K hK => ?_) AllReadyH.nil)))
  ·
   skip
   go_simp
   refine (share18l _ _ _ _ _).mono ?_
   rintro en w2 ⟨rfl,hb⟩
   have hw:=HW.out.ca hb
   refine hK.out _ _ hw.1 (fun hHeld => ?_)
   try simp only [Act.put,pt1,pt2,pt3]
   exact K_0_1.out _ _ hw
  ·
   skip
   go_simp
   have hw:=al18_7 [e18_0 g0] [] HW.out
   refine hK.out _ _ hw.1 (fun hHeld => ?_)
   try simp only [Act.put,pt1,pt2,pt3]
   exact K_0_7.out _ _ _ hw
  ·
   skip
   go_simp
   have hw:=al18_9 [e18_0 g0] [] HW.out
   refine hK.out _ _ hw.1 (fun hHeld => ?_)
   try simp only [Act.put,pt1,pt2,pt3]
   exact K_0_9.out _ _ _ hw
 intro key
 (try dsimp only [Act.put] at key); try simp only [pt1,pt2,pt3] at key
 have K_0:=Lib.hid key
 clear key
 refine memo (fun a G => ∀ (wn:World) (g7:Nat),Fs18 wc wn [e18_7 g7]→G (a.put (some 12) (.slice (some ⟨g7,0,none⟩) 2 2)) wn) 8 #[false,false,false,false,false,true,true,true,false,false,false] ?_ ?_
 ·
  try simp only [Act.put,pt1,pt2,pt3]
  intro wn g7 HW
  have HW:=Lib.hid HW
  refine wpAnyH_ready (rs:=[0,1,9]) (by kernel_rfl) (by simp) (rc (fun K hK => ?_) (rc (fun K hK => ?_) (rc (fun K hK => ?_) AllReadyH.nil)))
  ·
   skip
   go_simp
   have hw:=al18_0 [] [e18_7 g7] HW.out
   refine hK.out _ _ hw.1 (fun hHeld => ?_)
   try simp only [Act.put,pt1,pt2,pt3]
   exact K_0_7.out _ _ _ hw
  ·
   skip
   go_simp
   refine (share18l _ _ _ _ _).mono ?_
   rintro en w2 ⟨rfl,hb⟩
   have hw:=HW.out.ca hb
   refine hK.out _ _ hw.1 (fun hHeld => ?_)
   try simp only [Act.put,pt1,pt2,pt3]
   exact K_1_7.out _ _ hw
  ·
   skip
   go_simp
   have hw:=al18_9 [e18_7 g7] [] HW.out
   refine hK.out _ _ hw.1 (fun hHeld => ?_)
   try simp only [Act.put,pt1,pt2,pt3]
   exact K_7_9.out _ _ _ hw
 intro key
 (try dsimp only [Act.put] at key); try simp only [pt1,pt2,pt3] at key
 have K_7:=Lib.hid key
 clear key
 refine memo (fun a G => ∀ (wn:World) (g9:Nat),Fs18 wc wn [e18_9 g9]→G (a.put (some 2) (.pointer (some ⟨g9,0,none⟩))) wn) 8 #[false,false,false,false,false,true,true,false,false,true,false] ?_ ?_
 ·
  try simp only [Act.put,pt1,pt2,pt3]
  intro wn g9 HW
  have HW:=Lib.hid HW
  refine wpAnyH_ready (rs:=[0,1,7]) (by kernel_rfl) (by simp) (rc (fun K hK => ?_) (rc (fun K hK => ?_) (rc (fun K hK => ?_) AllReadyH.nil)))
  ·
   skip
   go_simp
   have hw:=al18_0 [] [e18_9 g9] HW.out
   refine hK.out _ _ hw.1 (fun hHeld => ?_)
   try simp only [Act.put,pt1,pt2,pt3]
   exact K_0_9.out _ _ _ hw
  ·
   skip
   go_simp
   refine (share18l _ _ _ _ _).mono ?_
   rintro en w2 ⟨rfl,hb⟩
   have hw:=HW.out.ca hb
   refine hK.out _ _ hw.1 (fun hHeld => ?_)
   try simp only [Act.put,pt1,pt2,pt3]
   exact K_1_9.out _ _ hw
  ·
   skip
   go_simp
   have hw:=al18_7 [] [e18_9 g9] HW.out
   refine hK.out _ _ hw.1 (fun hHeld => ?_)
   try simp only [Act.put,pt1,pt2,pt3]
   exact K_7_9.out _ _ _ hw
 intro key
 (try dsimp only [Act.put] at key); try simp only [pt1,pt2,pt3] at key
 have K_9:=Lib.hid key
 clear key
 refine memo (fun a G => ∀ (wn:World),Fs18 wc wn []→G (a.put (some 6) t18_1) wn) 8 #[false,true,false,false,false,true,true,false,false,false,false] ?_ ?_
 ·
  try simp only [Act.put,pt1,pt2,pt3]; try simp only [t18_1,t18_2,t18_3]
  intro wn HW
  have HW:=Lib.hid HW
  refine wpAnyH_ready (rs:=[0,2,7,9]) (by kernel_rfl) (by simp) (rc (fun K hK => ?_) (rc (fun K hK => ?_) (rc (fun K hK => ?_) (rc (fun K hK => ?_) AllReadyH.nil))))
  ·
   skip
   go_simp
   have hw:=al18_0 [] [] HW.out
   refine hK.out _ _ hw.1 (fun hHeld => ?_)
   try simp only [Act.put,pt1,pt2,pt3]
   exact K_0_1.out _ _ hw
  ·
   skip
   go_simp
   refine (share18l _ _ _ _ _).mono ?_
   rintro en w2 ⟨rfl,hb⟩
   have hw:=HW.out.ca hb
   refine hK.out _ _ hw.1 (fun hHeld => ?_)
   try simp only [Act.put,pt1,pt2,pt3]
   exact K_1_2.out _ hw
  ·
   skip
   go_simp
   have hw:=al18_7 [] [] HW.out
   refine hK.out _ _ hw.1 (fun hHeld => ?_)
   try simp only [Act.put,pt1,pt2,pt3]
   exact K_1_7.out _ _ hw
  ·
   skip
   go_simp
   have hw:=al18_9 [] [] HW.out
   refine hK.out _ _ hw.1 (fun hHeld => ?_)
   try simp only [Act.put,pt1,pt2,pt3]
   exact K_1_9.out _ _ hw
 intro key
 (try dsimp only [Act.put] at key); try simp only [pt1,pt2,pt3] at key
 have K_1:=Lib.hid key
 clear key
 have HW:Hid (Fs18 wc wn []):=Lib.hid ⟨HBS.out,fun p hp => by simp at hp⟩
 refine wpAnyH_ready (rs:=[0,1,7,9]) (by kernel_rfl) (by simp) (rc (fun K hK => ?_) (rc (fun K hK => ?_) (rc (fun K hK => ?_) (rc (fun K hK => ?_) AllReadyH.nil))))
 ·
  skip
  go_simp
  have hw:=al18_0 [] [] HW.out
  refine hK.out _ _ hw.1 (fun hHeld => ?_)
  try simp only [Act.put,pt1,pt2,pt3]
  exact K_0.out _ _ hw
 ·
  skip
  go_simp
  refine (share18l _ _ _ _ _).mono ?_
  rintro en w2 ⟨rfl,hb⟩
  have hw:=HW.out.ca hb
  refine hK.out _ _ hw.1 (fun hHeld => ?_)
  try simp only [Act.put,pt1,pt2,pt3]
  exact K_1.out _ hw
 ·
  skip
  go_simp
  have hw:=al18_7 [] [] HW.out
  refine hK.out _ _ hw.1 (fun hHeld => ?_)
  try simp only [Act.put,pt1,pt2,pt3]
  exact K_7.out _ _ hw
 ·
  skip
  go_simp
  have hw:=al18_9 [] [] HW.out
  refine hK.out _ _ hw.1 (fun hHeld => ?_)
  try simp only [Act.put,pt1,pt2,pt3]
  exact K_9.out _ _ hw
end
end Go.Proofs.YtgopgbfgbddggaaGreat
