/-
  SaidWorthKeeps, part 29 of 30: what the theorem worthKeeps_holds reaches.
-/
import Derived.Test.YtgopgbfgbddggaaGreatWK28
set_option linter.all false
namespace Go.Proofs.YtgopgbfgbddggaaGreat
open Go.RowKit
set_option maxRecDepth 100000
theorem of18_10 (W:World):Calls Tryz.prog 31 #[.int .u64 10,.int .u64 3] W (RetDB W 10 3):=of4_b 10 3 W (by omega) (by omega) (by omega)
theorem of18_20 (W:World):Calls Tryz.prog 31 #[.int .u64 20,.int .u64 3] W (RetDB W 20 3):=of4_b 20 3 W (by omega) (by omega) (by omega)
theorem int18_10 (W:World):Calls Tryz.prog 19 #[.int .u64 10] W (RetDB W 10 1):=int4_b 10 W (by omega)
theorem int18_00 (W:World):Calls Tryz.prog 19 #[.int .u64 0] W (RetDB W 0 1):=int4_b 0 W (by omega)
theorem same18 {A1 A2 B1 B2:Option Addr} {n1 c1 n2 c2 i1 e1 i2 e2 a b lo lo':Nat} (w:World) (h1:Nv w 0 (.slice A1 n1 c1) a) (h2:Nv w 0 (.slice A2 n2 c2) b) (h3:∃ L,lo≤L∧Num w L (.agg #[.slice B1 i1 e1]) a) (h4:∃ L,lo'≤L∧Num w L (.agg #[.slice B2 i2 e2]) b) (ha:a < 65536 ^ 36) (hb:b < 65536 ^ 36) :
  Calls Tryz.prog 11 #[.agg #[.slice A1 n1 c1,.slice A2 n2 c2],.agg #[.slice B1 i1 e1,.slice B2 i2 e2]] w fun e w' => e = .returned (.bool true)∧Below w.heap.size w w':=by
 obtain ⟨L3,_,h3⟩:=h3
 obtain ⟨L4,_,h4⟩:=h4
 exact same4_r (j:=36) w h1 h2 h3 h4 ha hb (by omega)
theorem exs18_sa {wn:World} {g0 g4 g7:Nat} (h0:Blk wn g0 4 #[.bool true,.bool true]) (h4:Blk wn g4 53 #[.bool true,.int .i64 0,.int .i64 10,.int .i64 2,.int .i64 1,.bool true,.bool true,.int .i64 1,.int .i64 1,.int .i64 1,.int .i64 0,.bool true,.bool true,.int .i64 1,.int .i64 2,.int .i64 1,.int .i64 1,.bool true]) (h7:Blk wn g7 58 #[.int .i64 2,.int .i64 (-1),.int .i64 (-1),.int .i64 1,.int .i64 1,.int .i64 2,.int .i64 (-1),.int .i64 (-1),.int .i64 1,.int .i64 1]):SA14 wn exS18 (some ⟨g0,0,none⟩) (some ⟨g4,0,none⟩) (some ⟨g7,0,none⟩) none none 2 3 2 0 0 2 3 2 0 0 5:=by
 refine ⟨rfl,rfl,rfl,rfl,rfl,?_,?_,?_,Lq.nil _ _ _ _,Lq.nil _ _ _ _,by omega,by omega,by omega,by omega,by omega,by omega,by omega,by omega,by omega,by omega,rfl⟩
 ·
  refine fun _ => ⟨g0,0,rfl,h0.lt,fun k v hk => ?_⟩
  rw [Nat.zero_add,h0.cell]
  rw [show fl14 clC exS18.C = [.bool true,.bool true] from rfl] at hk
  simpa using hk
 ·
  refine fun _ => ⟨g4,0,rfl,h4.lt,fun k v hk => ?_⟩
  rw [Nat.zero_add,h4.cell]
  rw [show fl14 clT exS18.T = [.bool true,.int .i64 0,.int .i64 10,.int .i64 2,.int .i64 1,.bool true,.bool true,.int .i64 1,.int .i64 1,.int .i64 1,.int .i64 0,.bool true,.bool true,.int .i64 1,.int .i64 2,.int .i64 1,.int .i64 1,.bool true] from rfl] at hk
  simpa using hk
 ·
  refine fun _ => ⟨g7,0,rfl,h7.lt,fun k v hk => ?_⟩
  rw [Nat.zero_add,h7.cell]
  rw [show fl14 clH exS18.H = [.int .i64 2,.int .i64 (-1),.int .i64 (-1),.int .i64 1,.int .i64 1,.int .i64 2,.int .i64 (-1),.int .i64 (-1),.int .i64 1,.int .i64 1] from rfl] at hk
  simpa using hk
set_option maxHeartbeats 16000000 in
theorem alive18_any (w:World):Calls Tryz.prog 8 #[] w fun e w' => e = .returned (.bool true)∧Below w.heap.size w w':=by
 obtain ⟨wC,wT,hw⟩:=wo18_ex exs18_fine
 have hb0:=b1' w (.cells #[.int .i64 2,.int .i64 (-1),.int .i64 (-1),.int .i64 1,.int .i64 1] 58)
 have hk0:=Blk.new w 58 #[.int .i64 2,.int .i64 (-1),.int .i64 (-1),.int .i64 1,.int .i64 1]
 obtain ⟨wa,hwa⟩:∃ W,w.alloc (.cells #[.int .i64 2,.int .i64 (-1),.int .i64 (-1),.int .i64 1,.int .i64 1] 58) = W:=⟨_,rfl⟩
 rw [hwa] at hb0 hk0
 have HB0:=Lib.hid hb0
 have HK0:=Lib.hid hk0
 have HWO:=Lib.hid hw
 clear hb0 hk0 hw
 go_enter Tryz.func8,Tryz.ntmps8
 go_upto_region 2 with (fail)
 try rw [hwa]
 refine built18 HK0.out (fun _ _ _ _ _ h => h) (fun x5 x6 x7 x8 x9 x10 x11 x12 x13 g0 g4 g7 g9 wn hbn h9 h0 h4 h7 => ?_)
 have HB1:Hid (Below w.heap.size w wn):=Lib.hid (HB0.out.trans (hbn.mono HB0.out.size))
 have HS1:=Lib.hid (exs18_sa h0 h4 h7)
 have HK9:=Lib.hid h9
 have z0:=h9.cell 0
 have z1:=h9.cell 1
 have z2:=h9.cell 2
 have z3:=h9.cell 3
 have z4:=h9.cell 4
 have z5:=h9.cell 5
 clear hbn h9 h0 h4 h7 HB0 HK0 hwa
 go_wp2_with fail
 refine (threads18 (.agg #[.slice (some ⟨g0,0,none⟩) 2 2,.slice (some ⟨g4,0,none⟩) 3 3,.slice (some ⟨g7,0,none⟩) 2 2,.slice none 0 0,.slice none 0 0,.int .i64 5]) exS18 wC wT wn ⟨_,_,_,_,_,_,_,_,_,_,_,_,_,_,_,_,rfl,HS1.out⟩ exs18_fine HWO.out).mono ?_
 rintro e w4 ⟨go,rfl,hg,hr,hb4⟩
 rw [show exS18.H.length = 2 from rfl] at hr ⊢
 have HB4:=Lib.hid (HB1.out.trans (hb4.mono HB1.out.size))
 have HS4:=Lib.hid (HS1.out.step hb4)
 have h94:=HK9.out.below hb4 HK9.out.lt
 have HZ0:Hid (w4.cell? ⟨g9,0,none⟩ = some (.slice (some ⟨g0,0,none⟩) 2 2)):=Lib.hid (h94.cell 0)
 have HZ1:Hid (w4.cell? ⟨g9,1,none⟩ = some (.slice (some ⟨g4,0,none⟩) 3 3)):=Lib.hid (h94.cell 1)
 have HZ2:Hid (w4.cell? ⟨g9,2,none⟩ = some (.slice (some ⟨g7,0,none⟩) 2 2)):=Lib.hid (h94.cell 2)
 have HZ3:Hid (w4.cell? ⟨g9,3,none⟩ = some (.slice none 0 0)):=Lib.hid (h94.cell 3)
 have HZ4:Hid (w4.cell? ⟨g9,4,none⟩ = some (.slice none 0 0)):=Lib.hid (h94.cell 4)
 have HZ5:Hid (w4.cell? ⟨g9,5,none⟩ = some (.int .i64 5)):=Lib.hid (h94.cell 5)
 obtain ⟨C1,k1,r1,C2,k2,r2,e1,e2,v1,v2,_,_⟩:=hr.cells (k:=0) (by omega)
 obtain ⟨C3,k3,r3,C4,k4,r4,e3,e4,v3,v4,_,_⟩:=hr.cells (k:=1) (by omega)
 obtain ⟨ht0,ht1⟩:=exs18_th HWO.out
 try dsimp only at v1 v2 v3 v4
 rw [ht0,exs18_q1] at v1 v2
 rw [ht1,exs18_q2] at v3 v4
 have HC1:Hid (w4.cell? ⟨go,0,none⟩ = some (.slice C1 k1 r1)):=Lib.hid e1
 have HC2:Hid (w4.cell? ⟨go,1,none⟩ = some (.slice C2 k2 r2)):=Lib.hid e2
 have HC3:Hid (w4.cell? ⟨go,2,none⟩ = some (.slice C3 k3 r3)):=Lib.hid e3
 have HC4:Hid (w4.cell? ⟨go,3,none⟩ = some (.slice C4 k4 r4)):=Lib.hid e4
 have HV1:=Lib.hid v1
 have HV2:=Lib.hid v2
 have HV3:=Lib.hid v3
 have HV4:=Lib.hid v4
 have HT0:Hid (∀ W,Be18 w4 W→Calls Tryz.prog 12 #[(.agg #[.slice (some ⟨g0,0,none⟩) 2 2,.slice (some ⟨g4,0,none⟩) 3 3,.slice (some ⟨g7,0,none⟩) 2 2,.slice none 0 0,.slice none 0 0,.int .i64 5]),.int .i64 0] W (RetQ0 W 10 1)):=Lib.hid (fun W h => by
  have h1:=ticketw18 (.agg #[.slice (some ⟨g0,0,none⟩) 2 2,.slice (some ⟨g4,0,none⟩) 3 3,.slice (some ⟨g7,0,none⟩) 2 2,.slice none 0 0,.slice none 0 0,.int .i64 5]) exS18 wC wT 0 W ⟨_,_,_,_,_,_,_,_,_,_,_,_,_,_,_,_,rfl,HS4.out.step h.z⟩ exs18_fine HWO.out (by decide)
  rw [(exs18_w HWO.out).1,show qr18 10 = (10,1) from qr18_nat 10] at h1
  exact h1)
 have HT9:Hid (∀ W,Be18 w4 W→Calls Tryz.prog 12 #[(.agg #[.slice (some ⟨g0,0,none⟩) 2 2,.slice (some ⟨g4,0,none⟩) 3 3,.slice (some ⟨g7,0,none⟩) 2 2,.slice none 0 0,.slice none 0 0,.int .i64 5]),.int .i64 9] W (RetQ0 W 0 1)):=Lib.hid (fun W h => (ticketw18_no (.agg #[.slice (some ⟨g0,0,none⟩) 2 2,.slice (some ⟨g4,0,none⟩) 3 3,.slice (some ⟨g7,0,none⟩) 2 2,.slice none 0 0,.slice none 0 0,.int .i64 5]) exS18 9 W ⟨_,_,_,_,_,_,_,_,_,_,_,_,_,_,_,_,rfl,HS4.out.step h.z⟩ (by decide +kernel)).mono (fun e w' h => h.q0))
 have HN4:Hid (Be18 w4 w4):=Lib.hid ⟨Below.refl _ _⟩
 have hl36:(1:Nat) < 65536 ^ 36∧(3:Nat) < 65536 ^ 36∧(10:Nat) < 65536 ^ 36∧(20:Nat) < 65536 ^ 36∧(0:Nat) < 65536 ^ 36:=by decide
 have HLT:=Lib.hid hl36
 clear hg hr hb4 h94 e1 e2 e3 e4 v1 v2 v3 v4 ht0 ht1 HB1 HS1 HK9 z0 z1 z2 z3 z4 z5 hl36
 have HXN:Hid (Be18 w4 w4.drew):=Lib.hid (HN4.out.step (Below.refl _ _).drew)
 clear HN4
 obtain ⟨wn,hwn⟩:∃ W,w4.drew = W:=⟨_,rfl⟩
 rw [hwn] at HXN
 go_wp2_with fail
 refine wp_region_held_drew (S:=Be18 w4) (by kernel_rfl) (by rw [hwn]; exact HXN.out) (fun hHeld => ?_)
 rw [hwn] at hHeld ⊢
 clear hwn
 have HBS:=HXN
 refine tk 0 (v:=?_) (fun W hS => ?_) ?_
 rotate_left
 · (go_simp; try with_reducible rfl)
 try simp only [Act.put,pt1,pt2,pt3]
 refine tk 1 (v:=?_) (fun W hS => ?_) ?_
 rotate_left
 · (go_simp; try with_reducible rfl)
 try simp only [Act.put,pt1,pt2,pt3]
 refine tk 2 (v:=?_) (fun W hS => ?_) ?_
 rotate_left
 · (go_simp; try with_reducible rfl)
 try simp only [Act.put,pt1,pt2,pt3]
 refine tk 3 (v:=?_) (fun W hS => ?_) ?_
 rotate_left
 · (go_simp; try with_reducible rfl)
 try simp only [Act.put,pt1,pt2,pt3]
 refine tk 4 (v:=?_) (fun W hS => ?_) ?_
 rotate_left
 · (go_simp; try with_reducible rfl)
 try simp only [Act.put,pt1,pt2,pt3]
 refine tk 5 (v:=?_) (fun W hS => ?_) ?_
 rotate_left
 · (go_simp; try with_reducible rfl)
 try simp only [Act.put,pt1,pt2,pt3]
 refine tk 6 (v:=?_) (fun W hS => ?_) ?_
 rotate_left
 ·
  try dsimp only at hS
  have z0:=(hS.z.cell (World.block_lt_of_cell? _ _ HC1.out)).trans HC1.out
  have z1:=(hS.z.cell (World.block_lt_of_cell? _ _ HC2.out)).trans HC2.out
  go_simp
  try with_reducible rfl
 try simp only [Act.put,pt1,pt2,pt3]
 refine rdy 7 (fun K hK => ?_)
 have HBS0:=HBS
 go_simp
 refine (of18_10 wn).mono ?_
 rintro e wn ⟨D1,i1,t1,D2,i2,t2,rfl,hx,hy,hb⟩
 have HBS:=Lib.hid (HBS0.out.step hb)
 have HX:=Lib.hid hx
 have HY:=Lib.hid hy
 clear hb HBS0 hx hy
 refine hK.out _ _ HBS.out (fun hHeld => ?_)
 clear hK K
 try simp only [Act.put,pt1,pt2,pt3]
 refine rdy 8 (fun K hK => ?_)
 have HBS0:=HBS
 go_simp
 refine (same18 wn (HV1.out.below HBS0.out.z) (HV2.out.below HBS0.out.z) HX.out HY.out HLT.out.2.2.1 HLT.out.2.1).mono ?_
 rintro e wn ⟨rfl,hb⟩
 have HBS:=Lib.hid (HBS0.out.step hb)
 clear hb HBS0 HX HY
 refine hK.out _ _ HBS.out (fun hHeld => ?_)
 clear hK K
 try simp only [Act.put,pt1,pt2,pt3]
 refine tk 9 (v:=?_) (fun W hS => ?_) ?_
 rotate_left
 · (go_simp; try with_reducible rfl)
 try simp only [Act.put,pt1,pt2,pt3]
 refine tk 10 (v:=?_) (fun W hS => ?_) ?_
 rotate_left
 · (go_simp; try with_reducible rfl)
 try simp only [Act.put,pt1,pt2,pt3]
 refine tk 11 (v:=?_) (fun W hS => ?_) ?_
 rotate_left
 · (go_simp; try with_reducible rfl)
 try simp only [Act.put,pt1,pt2,pt3]
 refine tk 12 (v:=?_) (fun W hS => ?_) ?_
 rotate_left
 · (go_simp; try with_reducible rfl)
 try simp only [Act.put,pt1,pt2,pt3]
 refine tk 13 (v:=?_) (fun W hS => ?_) ?_
 rotate_left
 ·
  try dsimp only at hS
  have z0:=(hS.z.cell (World.block_lt_of_cell? _ _ HC3.out)).trans HC3.out
  have z1:=(hS.z.cell (World.block_lt_of_cell? _ _ HC4.out)).trans HC4.out
  go_simp
  try with_reducible rfl
 try simp only [Act.put,pt1,pt2,pt3]
 refine rdy 14 (fun K hK => ?_)
 have HBS0:=HBS
 go_simp
 refine (of18_20 wn).mono ?_
 rintro e wn ⟨D1,i1,t1,D2,i2,t2,rfl,hx,hy,hb⟩
 have HBS:=Lib.hid (HBS0.out.step hb)
 have HX:=Lib.hid hx
 have HY:=Lib.hid hy
 clear hb HBS0 hx hy
 refine hK.out _ _ HBS.out (fun hHeld => ?_)
 clear hK K
 try simp only [Act.put,pt1,pt2,pt3]
 refine rdy 15 (fun K hK => ?_)
 have HBS0:=HBS
 go_simp
 refine (same18 wn (HV3.out.below HBS0.out.z) (HV4.out.below HBS0.out.z) HX.out HY.out HLT.out.2.2.2.1 HLT.out.2.1).mono ?_
 rintro e wn ⟨rfl,hb⟩
 have HBS:=Lib.hid (HBS0.out.step hb)
 clear hb HBS0 HX HY
 refine hK.out _ _ HBS.out (fun hHeld => ?_)
 clear hK K
 try simp only [Act.put,pt1,pt2,pt3]
 refine tk 16 (v:=?_) (fun W hS => ?_) ?_
 rotate_left
 · (go_simp; try with_reducible rfl)
 try simp only [Act.put,pt1,pt2,pt3]
 refine tk 17 (v:=?_) (fun W hS => ?_) ?_
 rotate_left
 · (go_simp; try with_reducible rfl)
 try simp only [Act.put,pt1,pt2,pt3]
 refine tk 18 (v:=?_) (fun W hS => ?_) ?_
 rotate_left
 ·
  try dsimp only at hS
  have z0:=(hS.z.cell (World.block_lt_of_cell? _ _ HZ0.out)).trans HZ0.out
  have z1:=(hS.z.cell (World.block_lt_of_cell? _ _ HZ1.out)).trans HZ1.out
  have z2:=(hS.z.cell (World.block_lt_of_cell? _ _ HZ2.out)).trans HZ2.out
  have z3:=(hS.z.cell (World.block_lt_of_cell? _ _ HZ3.out)).trans HZ3.out
  have z4:=(hS.z.cell (World.block_lt_of_cell? _ _ HZ4.out)).trans HZ4.out
  have z5:=(hS.z.cell (World.block_lt_of_cell? _ _ HZ5.out)).trans HZ5.out
  go_simp
  try with_reducible rfl
 try simp only [Act.put,pt1,pt2,pt3]
 refine rdy 19 (fun K hK => ?_)
 have HBS0:=HBS
 go_simp
 refine (HT0.out _ HBS0.out).mono ?_
 rintro e wn ⟨E1,l1,s1,E2,l2,s2,rfl,hx,hy,hb⟩
 have HBS:=Lib.hid (HBS0.out.step hb)
 have HU:=Lib.hid hx
 have HW:=Lib.hid hy
 clear hb HBS0 hx hy
 refine hK.out _ _ HBS.out (fun hHeld => ?_)
 clear hK K
 try simp only [Act.put,pt1,pt2,pt3]
 refine rdy 20 (fun K hK => ?_)
 have HBS0:=HBS
 go_simp
 refine (int18_10 wn).mono ?_
 rintro e wn ⟨D1,i1,t1,D2,i2,t2,rfl,hx,hy,hb⟩
 have HBS:=Lib.hid (HBS0.out.step hb)
 have HU:=Lib.hid (HU.out.below hb)
 have HW:=Lib.hid (HW.out.below hb)
 have HX:=Lib.hid hx
 have HY:=Lib.hid hy
 clear hb HBS0 hx hy
 refine hK.out _ _ HBS.out (fun hHeld => ?_)
 clear hK K
 try simp only [Act.put,pt1,pt2,pt3]
 refine rdy 21 (fun K hK => ?_)
 have HBS0:=HBS
 go_simp
 refine (same18 wn HU.out HW.out HX.out HY.out HLT.out.2.2.1 HLT.out.1).mono ?_
 rintro e wn ⟨rfl,hb⟩
 have HBS:=Lib.hid (HBS0.out.step hb)
 clear hb HBS0 HX HY
 refine hK.out _ _ HBS.out (fun hHeld => ?_)
 clear hK K
 try simp only [Act.put,pt1,pt2,pt3]
 refine tk 22 (v:=?_) (fun W hS => ?_) ?_
 rotate_left
 · (go_simp; try with_reducible rfl)
 try simp only [Act.put,pt1,pt2,pt3]
 refine tk 23 (v:=?_) (fun W hS => ?_) ?_
 rotate_left
 · (go_simp; try with_reducible rfl)
 try simp only [Act.put,pt1,pt2,pt3]
 refine tk 24 (v:=?_) (fun W hS => ?_) ?_
 rotate_left
 ·
  try dsimp only at hS
  have z0:=(hS.z.cell (World.block_lt_of_cell? _ _ HZ0.out)).trans HZ0.out
  have z1:=(hS.z.cell (World.block_lt_of_cell? _ _ HZ1.out)).trans HZ1.out
  have z2:=(hS.z.cell (World.block_lt_of_cell? _ _ HZ2.out)).trans HZ2.out
  have z3:=(hS.z.cell (World.block_lt_of_cell? _ _ HZ3.out)).trans HZ3.out
  have z4:=(hS.z.cell (World.block_lt_of_cell? _ _ HZ4.out)).trans HZ4.out
  have z5:=(hS.z.cell (World.block_lt_of_cell? _ _ HZ5.out)).trans HZ5.out
  go_simp
  try with_reducible rfl
 try simp only [Act.put,pt1,pt2,pt3]
 refine rdy 25 (fun K hK => ?_)
 have HBS0:=HBS
 go_simp
 refine (HT9.out _ HBS0.out).mono ?_
 rintro e wn ⟨E1,l1,s1,E2,l2,s2,rfl,hx,hy,hb⟩
 have HBS:=Lib.hid (HBS0.out.step hb)
 have HU:=Lib.hid hx
 have HW:=Lib.hid hy
 clear hb HBS0 hx hy
 refine hK.out _ _ HBS.out (fun hHeld => ?_)
 clear hK K
 try simp only [Act.put,pt1,pt2,pt3]
 refine rdy 26 (fun K hK => ?_)
 have HBS0:=HBS
 go_simp
 refine (int18_00 wn).mono ?_
 rintro e wn ⟨D1,i1,t1,D2,i2,t2,rfl,hx,hy,hb⟩
 have HBS:=Lib.hid (HBS0.out.step hb)
 have HU:=Lib.hid (HU.out.below hb)
 have HW:=Lib.hid (HW.out.below hb)
 have HX:=Lib.hid hx
 have HY:=Lib.hid hy
 clear hb HBS0 hx hy
 refine hK.out _ _ HBS.out (fun hHeld => ?_)
 clear hK K
 try simp only [Act.put,pt1,pt2,pt3]
 refine rdy 27 (fun K hK => ?_)
 have HBS0:=HBS
 go_simp
 refine (same18 wn HU.out HW.out HX.out HY.out HLT.out.2.2.2.2 HLT.out.1).mono ?_
 rintro e wn ⟨rfl,hb⟩
 have HBS:=Lib.hid (HBS0.out.step hb)
 clear hb HBS0 HX HY
 refine hK.out _ _ HBS.out (fun hHeld => ?_)
 clear hK K
 try simp only [Act.put,pt1,pt2,pt3]
 refine tk 28 (v:=?_) (fun W hS => ?_) ?_
 rotate_left
 · (go_simp; try with_reducible rfl)
 try simp only [Act.put,pt1,pt2,pt3]
 refine rdy 29 (fun K hK => ?_)
 go_simp
 refine hK.out _ _ HBS.out (fun hHeld => ?_)
 clear hK K
 try simp only [Act.put,pt1,pt2,pt3]
 refine wpAnyH_done (by kernel_rfl) ?_ _
 clear hHeld
 clear HXN HC1 HC2 HC3 HC4 HV1 HV2 HV3 HV4
 go_wp2_with fail
 go_ret
 exact ⟨rfl,HB4.out.trans (HBS.out.z.mono HB4.out.size)⟩
structure Ly18 (w:World) (S:Sv14) (A0 A1 A2 A3 A4:Option Addr) (n0 n1 n2 n3 n4 c0 c1 c2 c3 c4:Nat) (sq:Int) (w3:World) (W:World):Prop where
 b:By16 w S A0 A1 A2 A3 A4 n0 n1 n2 n3 n4 c0 c1 c2 c3 c4 sq W
 z:Below w3.heap.size w3 W
theorem Ly18.step {w:World} {S:Sv14} {A0 A1 A2 A3 A4:Option Addr} {n0 n1 n2 n3 n4 c0 c1 c2 c3 c4:Nat} {sq:Int} {w3:World} {W W':World} (h:Ly18 w S A0 A1 A2 A3 A4 n0 n1 n2 n3 n4 c0 c1 c2 c3 c4 sq w3 W) (hb:Below W.heap.size W W'):Ly18 w S A0 A1 A2 A3 A4 n0 n1 n2 n3 n4 c0 c1 c2 c3 c4 sq w3 W':=⟨h.b.step hb,h.z.trans (hb.mono h.z.size)⟩
set_option maxHeartbeats 2000000 in
theorem wkeeps18_no1 (A0 A1 A2 A3 A4:Option Addr) (n0 n1 n2 n3 n4 c0 c1 c2 c3 c4:Nat) (sq:Int) (S:Sv14) (w:World) (hn:¬ Small14 n0 n1 n2 n3 n4) :
  Calls Tryz.prog 4 #[(.agg #[.slice A0 n0 c0,.slice A1 n1 c1,.slice A2 n2 c2,.slice A3 n3 c3,.slice A4 n4 c4,.int .i64 sq])] w fun e w' => e = .returned (.bool true)∧Below w.heap.size w w':=by
 have hb0:=b1' w (.cells #[.slice A0 n0 c0,.slice A1 n1 c1,.slice A2 n2 c2,.slice A3 n3 c3,.slice A4 n4 c4,.int .i64 sq] 28)
 have hk0:=Blk.new w 28 #[.slice A0 n0 c0,.slice A1 n1 c1,.slice A2 n2 c2,.slice A3 n3 c3,.slice A4 n4 c4,.int .i64 sq]
 obtain ⟨W0,hW0⟩:∃ W,w.alloc (.cells #[.slice A0 n0 c0,.slice A1 n1 c1,.slice A2 n2 c2,.slice A3 n3 c3,.slice A4 n4 c4,.int .i64 sq] 28) = W:=⟨_,rfl⟩
 rw [hW0] at hb0 hk0
 have p0:=hk0.cell 0
 have p1:=hk0.cell 1
 have p2:=hk0.cell 2
 have p3:=hk0.cell 3
 have p4:=hk0.cell 4
 have p5:=hk0.cell 5
 have HB0:=Lib.hid hb0
 have HC:=Lib.hid (fun W => small14 A0 A1 A2 A3 A4 n0 n1 n2 n3 n4 c0 c1 c2 c3 c4 sq false W (by simp [hn]))
 clear hb0 hk0 hn
 go_enter Tryz.func4,Tryz.ntmps4
 go_wp2_with fail
 refine (HC.out _).mono ?_
 rintro e u1 ⟨rfl,hb1⟩
 have HB1:=Lib.hid (HB0.out.trans (hb1.mono HB0.out.size))
 clear hb1 HC
 go_wp2_with fail
 refine (alive18_any _).mono ?_
 rintro e u2 ⟨rfl,hb2⟩
 have HB2:=Lib.hid (HB1.out.trans (hb2.mono HB1.out.size))
 clear hb2
 go_wp2_with fail
 go_ret
 exact ⟨rfl,HB2.out⟩
set_option maxHeartbeats 2000000 in
theorem wkeeps18_no2 (A0 A1 A2 A3 A4:Option Addr) (n0 n1 n2 n3 n4 c0 c1 c2 c3 c4:Nat) (sq:Int) (S:Sv14) (w:World) (hs:SA14 w S A0 A1 A2 A3 A4 n0 n1 n2 n3 n4 c0 c1 c2 c3 c4 sq) (hn:Small14 n0 n1 n2 n3 n4) (hg:light17 S = false) :
  Calls Tryz.prog 4 #[(.agg #[.slice A0 n0 c0,.slice A1 n1 c1,.slice A2 n2 c2,.slice A3 n3 c3,.slice A4 n4 c4,.int .i64 sq])] w fun e w' => e = .returned (.bool true)∧Below w.heap.size w w':=by
 have hx0:=Bx14.new hs
 have hxn:=hx0.step (Below.refl _ _).drew
 obtain ⟨W1,hW1⟩:∃ W,w.alloc (.cells #[.slice A0 n0 c0,.slice A1 n1 c1,.slice A2 n2 c2,.slice A3 n3 c3,.slice A4 n4 c4,.int .i64 sq] 28) = W:=⟨_,rfl⟩
 rw [hW1] at hx0 hxn
 have HX0:=Lib.hid hx0
 have p0:=hx0.x.cell 0
 have p1:=hx0.x.cell 1
 have p2:=hx0.x.cell 2
 have p3:=hx0.x.cell 3
 have p4:=hx0.x.cell 4
 have p5:=hx0.x.cell 5
 have HC:=Lib.hid (fun W => small14 A0 A1 A2 A3 A4 n0 n1 n2 n3 n4 c0 c1 c2 c3 c4 sq true W (by simp [hn]))
 have HD0:=Lib.hid (fun W (h:Bx14 w S A0 A1 A2 A3 A4 n0 n1 n2 n3 n4 c0 c1 c2 c3 c4 sq W) => (show Calls Tryz.prog 6 #[(.agg #[.slice A0 n0 c0,.slice A1 n1 c1,.slice A2 n2 c2,.slice A3 n3 c3,.slice A4 n4 c4,.int .i64 sq])] W fun e w' => e = .returned (.bool false)∧Below W.heap.size W w' from by have h1:=rlight17 (.agg #[.slice A0 n0 c0,.slice A1 n1 c1,.slice A2 n2 c2,.slice A3 n3 c3,.slice A4 n4 c4,.int .i64 sq]) S W h.st; rwa [hg] at h1))
 clear hs hx0 hxn hn hg
 go_enter Tryz.func4,Tryz.ntmps4
 go_wp2_with fail
 refine (HC.out _).mono ?_
 rintro e u1 ⟨rfl,hb1⟩
 have HX1:=Lib.hid (HX0.out.step hb1)
 clear hb1 HC HX0 p0 p1 p2 p3 p4 p5
 have q10:=HX1.out.x.cell 0
 have q11:=HX1.out.x.cell 1
 have q12:=HX1.out.x.cell 2
 have q13:=HX1.out.x.cell 3
 have q14:=HX1.out.x.cell 4
 have q15:=HX1.out.x.cell 5
 go_wp2_with fail
 refine (HD0.out _ HX1.out).mono ?_
 rintro e u2 ⟨rfl,hb2⟩
 have HX2:=Lib.hid (HX1.out.step hb2)
 clear hb2 HD0 HX1 q10 q11 q12 q13 q14 q15
 go_wp2_with fail
 refine (alive18_any _).mono ?_
 rintro e u3 ⟨rfl,hb3⟩
 have HX3:=Lib.hid (HX2.out.step hb3)
 clear hb3
 go_wp2_with fail
 go_ret
 exact ⟨rfl,HX3.out.b⟩
set_option maxHeartbeats 2000000 in
theorem wkeeps18_no3 (A0 A1 A2 A3 A4:Option Addr) (n0 n1 n2 n3 n4 c0 c1 c2 c3 c4:Nat) (sq:Int) (S:Sv14) (w:World) (hs:SA14 w S A0 A1 A2 A3 A4 n0 n1 n2 n3 n4 c0 c1 c2 c3 c4 sq) (hn:Small14 n0 n1 n2 n3 n4) (hg:light17 S = true) (hf:¬ Fine14 S) :
  Calls Tryz.prog 4 #[(.agg #[.slice A0 n0 c0,.slice A1 n1 c1,.slice A2 n2 c2,.slice A3 n3 c3,.slice A4 n4 c4,.int .i64 sq])] w fun e w' => e = .returned (.bool true)∧Below w.heap.size w w':=by
 have hx0:=Bx14.new hs
 have hxn:=hx0.step (Below.refl _ _).drew
 obtain ⟨W1,hW1⟩:∃ W,w.alloc (.cells #[.slice A0 n0 c0,.slice A1 n1 c1,.slice A2 n2 c2,.slice A3 n3 c3,.slice A4 n4 c4,.int .i64 sq] 28) = W:=⟨_,rfl⟩
 rw [hW1] at hx0 hxn
 have HX0:=Lib.hid hx0
 have p0:=hx0.x.cell 0
 have p1:=hx0.x.cell 1
 have p2:=hx0.x.cell 2
 have p3:=hx0.x.cell 3
 have p4:=hx0.x.cell 4
 have p5:=hx0.x.cell 5
 have HC:=Lib.hid (fun W => small14 A0 A1 A2 A3 A4 n0 n1 n2 n3 n4 c0 c1 c2 c3 c4 sq true W (by simp [hn]))
 have HD0:=Lib.hid (fun W (h:Bx14 w S A0 A1 A2 A3 A4 n0 n1 n2 n3 n4 c0 c1 c2 c3 c4 sq W) => (show Calls Tryz.prog 6 #[(.agg #[.slice A0 n0 c0,.slice A1 n1 c1,.slice A2 n2 c2,.slice A3 n3 c3,.slice A4 n4 c4,.int .i64 sq])] W fun e w' => e = .returned (.bool true)∧Below W.heap.size W w' from by have h1:=rlight17 (.agg #[.slice A0 n0 c0,.slice A1 n1 c1,.slice A2 n2 c2,.slice A3 n3 c3,.slice A4 n4 c4,.int .i64 sq]) S W h.st; rwa [hg] at h1))
 have HD1:=Lib.hid (fun W (h:Bx14 w S A0 A1 A2 A3 A4 n0 n1 n2 n3 n4 c0 c1 c2 c3 c4 sq W) => rfine14 (.agg #[.slice A0 n0 c0,.slice A1 n1 c1,.slice A2 n2 c2,.slice A3 n3 c3,.slice A4 n4 c4,.int .i64 sq]) S false W h.st (by simp [hf]))
 clear hs hx0 hxn hn hg hf
 go_enter Tryz.func4,Tryz.ntmps4
 go_wp2_with fail
 refine (HC.out _).mono ?_
 rintro e u1 ⟨rfl,hb1⟩
 have HX1:=Lib.hid (HX0.out.step hb1)
 clear hb1 HC HX0 p0 p1 p2 p3 p4 p5
 have q10:=HX1.out.x.cell 0
 have q11:=HX1.out.x.cell 1
 have q12:=HX1.out.x.cell 2
 have q13:=HX1.out.x.cell 3
 have q14:=HX1.out.x.cell 4
 have q15:=HX1.out.x.cell 5
 go_wp2_with fail
 refine (HD0.out _ HX1.out).mono ?_
 rintro e u2 ⟨rfl,hb2⟩
 have HX2:=Lib.hid (HX1.out.step hb2)
 clear hb2 HD0 HX1 q10 q11 q12 q13 q14 q15
 have q20:=HX2.out.x.cell 0
 have q21:=HX2.out.x.cell 1
 have q22:=HX2.out.x.cell 2
 have q23:=HX2.out.x.cell 3
 have q24:=HX2.out.x.cell 4
 have q25:=HX2.out.x.cell 5
 go_wp2_with fail
 refine (HD1.out _ HX2.out).mono ?_
 rintro e u3 ⟨rfl,hb3⟩
 have HX3:=Lib.hid (HX2.out.step hb3)
 clear hb3 HD1 HX2 q20 q21 q22 q23 q24 q25
 go_wp2_with fail
 refine (alive18_any _).mono ?_
 rintro e u4 ⟨rfl,hb4⟩
 have HX4:=Lib.hid (HX3.out.step hb4)
 clear hb4
 go_wp2_with fail
 go_ret
 exact ⟨rfl,HX4.out.b⟩
theorem lsum18_sumR (f:Nat→Rat):∀ n,lsum18 ((List.range n).map f) = sumR f n
 | 0 => rfl
 | n + 1 => by
  rw [List.range_succ,List.map_append,lsum18_app,lsum18_sumR f n,List.map_cons,List.map_nil,lsum18,lsum18,sumR]
  grind
theorem Wo18.tsum_isw {S:Sv14} {wC wT:Nat→Rat} (h:Wo18 S wC wT) (c:Int) (n:Nat):tsum18 wT (tks15 S (isw15 c) n) (tks15 S (isw15 c) n).length = sumR (fun k => if (gt14 S.T k).c = c then wT k else 0) n:=by
 rw [tsum18_tks]
 refine sumR_congr (fun k _ => ?_)
 unfold isw15
 simp only [decide_eq_true_iff]
 by_cases hc:(gt14 S.T k).c = c
 ·
  by_cases hu:(gt14 S.T k).u = true
  · rw [if_pos ⟨hu,hc⟩,if_pos hc]
  · rw [if_neg (fun g => hu g.1),if_pos hc,h.none (fun g => hu g.lt.2)]
 · rw [if_neg (fun g => hc g.2),if_neg hc]
structure Kp18 (w:World) (S:Sv14) (A0 A1 A2 A3 A4:Option Addr) (n0 n1 n2 n3 n4 c0 c1 c2 c3 c4:Nat) (sq:Int) (gC gT:Nat) (wC wT:Nat→Rat) (W:World):Prop where
 b:By16 w S A0 A1 A2 A3 A4 n0 n1 n2 n3 n4 c0 c1 c2 c3 c4 sq W
 c:Qr18 W gC n0 (fun k => qr18 (wC k))
 t:Qr18 W gT n1 (fun k => qr18 (wT k))
theorem Kp18.step {w:World} {S:Sv14} {A0 A1 A2 A3 A4:Option Addr} {n0 n1 n2 n3 n4 c0 c1 c2 c3 c4:Nat} {sq:Int} {gC gT:Nat} {wC wT:Nat→Rat} {W W':World} (h:Kp18 w S A0 A1 A2 A3 A4 n0 n1 n2 n3 n4 c0 c1 c2 c3 c4 sq gC gT wC wT W) (hb:Below W.heap.size W W'):Kp18 w S A0 A1 A2 A3 A4 n0 n1 n2 n3 n4 c0 c1 c2 c3 c4 sq gC gT wC wT W':=⟨h.b.step hb,h.c.step hb,h.t.step hb⟩
def Pw18 (w5 W:World) (v:Value) (k:Nat) (q:Nat→Nat × Nat):Prop:=∃ cs,W.ownsRow w5.heap.size 41 2 v k cs∧∀ j,j < k→∃ A1 i1 t1 A2 i2 t2,cs[j * 2]? = some (.slice A1 i1 t1)∧cs[j * 2 + 1]? = some (.slice A2 i2 t2)∧Nv w5 0 (.slice A1 i1 t1) (q j).1∧Nv w5 0 (.slice A2 i2 t2) (q j).2
theorem Pw18.rats {w5 W:World} {A:Option Addr} {k c:Nat} {q:Nat→Nat × Nat} (h:Pw18 w5 W (.slice A k c) k q) (hz:Below w5.heap.size w5 W) (hs:∀ j,j < k→Sm18 (q j)):Rats W W.heap.size A ((List.range k).map q) 18:=fun j x hj => by
 have hjk:j < k:=by
  have:=(List.getElem?_eq_some_iff.1 hj).1
  simpa using this
 have hx:q j = x:=by
  rw [List.getElem?_map,List.getElem?_range hjk] at hj
  simpa using hj
 subst hx
 obtain ⟨cs,h1,h2⟩:=h
 obtain ⟨A1,i1,t1,A2,i2,t2,e1,e2,e3,e4⟩:=h2 j hjk
 have hsm:=hs j hjk
 rcases h1.2 with ⟨_,h0⟩ | ⟨g,cap,cur,hv,_⟩
 · omega
 ·
  injection hv with hA
  subst hA
  have a1:=h1.cells (g:=g) rfl _ _ e1
  have a2:=h1.cells (g:=g) rfl _ _ e2
  rw [Go.WideShapes.add_plain] at a1 a2
  have a2':W.cell? ⟨g,0 + j * 2 + 1,none⟩ = some (.slice A2 i2 t2):=by simpa only [Nat.add_assoc] using a2
  exact ⟨g,0,A1,i1,t1,A2,i2,t2,rfl,World.block_lt_of_cell? _ _ a1,a1,a2',(e3.below hz).nr hsm.1,(e4.below hz).nr hsm.2⟩
structure Kl18 (w:World) (S:Sv14) (A0 A1 A2 A3 A4:Option Addr) (n0 n1 n2 n3 n4 c0 c1 c2 c3 c4:Nat) (sq:Int) (gC gT:Nat) (wC wT:Nat→Rat) (w5:World) (l:List Nat) (B:Option Addr) (k cc:Nat) (W:World):Prop where
 p:Kp18 w S A0 A1 A2 A3 A4 n0 n1 n2 n3 n4 c0 c1 c2 c3 c4 sq gC gT wC wT W
 z:Below w5.heap.size w5 W
 q:Pw18 w5 W (.slice B k cc) k (fun j => qr18 (wT (nth l j)))
 h:w.heap.size < w5.heap.size
 c:gC < w5.heap.size
 t:Qr18 w5 gT n1 (fun k => qr18 (wT k))
theorem Kl18.start {w:World} {S:Sv14} {A0 A1 A2 A3 A4:Option Addr} {n0 n1 n2 n3 n4 c0 c1 c2 c3 c4:Nat} {sq:Int} {gC gT:Nat} {wC wT:Nat→Rat} {w5:World} (l:List Nat) (h:Kp18 w S A0 A1 A2 A3 A4 n0 n1 n2 n3 n4 c0 c1 c2 c3 c4 sq gC gT wC wT w5):Kl18 w S A0 A1 A2 A3 A4 n0 n1 n2 n3 n4 c0 c1 c2 c3 c4 sq gC gT wC wT w5 l none 0 0 w5:=⟨h,Below.refl _ _,⟨[],World.ownsRow_nil _ _ _ _,fun j hj => absurd hj (by omega)⟩,h.b.b.x.lt,h.c.lt,h.t⟩
theorem Kl18.push {w:World} {S:Sv14} {A0 A1 A2 A3 A4:Option Addr} {n0 n1 n2 n3 n4 c0 c1 c2 c3 c4:Nat} {sq:Int} {gC gT:Nat} {wC wT:Nat→Rat} {w5:World} {l:List Nat} {B:Option Addr} {k cc:Nat} {W:World} (h:Kl18 w S A0 A1 A2 A3 A4 n0 n1 n2 n3 n4 c0 c1 c2 c3 c4 sq gC gT wC wT w5 l B k cc W) (hc5:Qr18 w5 gC n0 (fun k => qr18 (wC k))) {D1:Option Addr} {i1 t1:Nat} {D2:Option Addr} {i2 t2:Nat} (h1:Nv w5 0 (.slice D1 i1 t1) (qr18 (wT (nth l k))).1) (h2:Nv w5 0 (.slice D2 i2 t2) (qr18 (wT (nth l k))).2) (hk:k≤5000) :
  ∃ A' c' W3,(Builtin.append_ #[44,44] 44 #[.slice B k cc,.slice (some ⟨W.heap.size,0,none⟩) 1 1]).run Tryz.prog (W.alloc (.cells #[.slice D1 i1 t1,.slice D2 i2 t2] 41)) = .ok (.slice A' (k + 1) c') W3∧Kl18 w S A0 A1 A2 A3 A4 n0 n1 n2 n3 n4 c0 c1 c2 c3 c4 sq gC gT wC wT w5 l A' (k + 1) c' W3:=by
 obtain ⟨cs,q1,q2⟩:=h.q
 have ha:=b1' W (.cells #[.slice D1 i1 t1,.slice D2 i2 t2] 41)
 have hk2:=Blk.new W 41 #[.slice D1 i1 t1,.slice D2 i2 t2]
 have o2:=own_keep2 q1 ha
 obtain ⟨W2,hW2⟩:∃ X,W.alloc (.cells #[.slice D1 i1 t1,.slice D2 i2 t2] 41) = X:=⟨_,rfl⟩
 rw [hW2] at ha hk2 o2 ⊢
 have hle:w5.heap.size≤W2.heap.size:=Nat.le_trans h.z.size ha.size
 have hrv:Rv W2 W2.heap.size (some ⟨W.heap.size,0,none⟩) [.slice D1 i1 t1,.slice D2 i2 t2]:=fun _ => ⟨W.heap.size,0,rfl,hk2.lt,fun j v hj => by
  rw [Nat.zero_add,hk2.cell]
  simpa using hj⟩
 obtain ⟨A',c',W3,hrun,hown,hg⟩:=run_append_14 (P:=Tryz.prog) W2 w5.heap.size 44 44 41 _ 2 48 Tryz.underlying44 info_ratio18 rfl (by omega) (by omega) _ k cs o2 W2.heap.size (some ⟨W.heap.size,0,none⟩) [.slice D1 i1 t1,.slice D2 i2 t2] 1 1 rfl hrv (by simp [Value.oneCell']) (by omega) hle
 have hlt:=q1.lt
 have h32:Below w5.heap.size W2 W3:=(Below.refl _ _).grown hg hle (fun r hr => (hlt r hr).1)
 have h30:Below w5.heap.size W W3:=(ha.mono h.z.size).trans h32
 have hz3:=h.z.trans h30
 have hlen:cs.length = k * 2:=q1.1
 refine ⟨A',c',W3,hrun,⟨⟨h.p.b.low (h30.mono (by have:=h.h; omega)),hc5.step hz3,h.t.step hz3⟩,hz3,⟨_,hown,fun j hj => ?_⟩,h.h,h.c,h.t⟩⟩
 rcases Nat.lt_or_ge j k with hjk | hjk
 ·
  obtain ⟨B1,m1,d1,B2,m2,d2,e1,e2,e3,e4⟩:=q2 j hjk
  exact ⟨B1,m1,d1,B2,m2,d2,by rw [List.getElem?_append_left (by omega)]; exact e1,by rw [List.getElem?_append_left (by omega)]; exact e2,e3,e4⟩
 ·
  obtain rfl:j = k:=by omega
  exact ⟨D1,i1,t1,D2,i2,t2,by rw [List.getElem?_append_right (by omega),hlen]; simp,by rw [List.getElem?_append_right (by omega),hlen]; simp [show j * 2 + 1 - j * 2 = 1 by omega],h1,h2⟩
set_option maxHeartbeats 16000000 in
theorem wkeeps18_yes (A0 A1 A2 A3 A4:Option Addr) (n0 n1 n2 n3 n4 c0 c1 c2 c3 c4:Nat) (sq:Int) (S:Sv14) (w:World) (hs:SA14 w S A0 A1 A2 A3 A4 n0 n1 n2 n3 n4 c0 c1 c2 c3 c4 sq) (hn:Small14 n0 n1 n2 n3 n4) (hg:light17 S = true) (hf:Fine14 S) :
  Calls Tryz.prog 4 #[(.agg #[.slice A0 n0 c0,.slice A1 n1 c1,.slice A2 n2 c2,.slice A3 n3 c3,.slice A4 n4 c4,.int .i64 sq])] w fun e w' => e = .returned (.bool true)∧Below w.heap.size w w':=by
 obtain ⟨wC,wT,hw⟩:=wo18_ex hf
 have hx0:=Bx14.new hs
 have hxn:=hx0.step (Below.refl _ _).drew
 obtain ⟨W1,hW1⟩:∃ W,w.alloc (.cells #[.slice A0 n0 c0,.slice A1 n1 c1,.slice A2 n2 c2,.slice A3 n3 c3,.slice A4 n4 c4,.int .i64 sq] 28) = W:=⟨_,rfl⟩
 rw [hW1] at hx0 hxn
 have HX0:=Lib.hid hx0
 have p0:=hx0.x.cell 0
 have p1:=hx0.x.cell 1
 have p2:=hx0.x.cell 2
 have p3:=hx0.x.cell 3
 have p4:=hx0.x.cell 4
 have p5:=hx0.x.cell 5
 have HC:=Lib.hid (fun W => small14 A0 A1 A2 A3 A4 n0 n1 n2 n3 n4 c0 c1 c2 c3 c4 sq true W (by simp [hn]))
 have HG:=Lib.hid (fun W (h:Bx14 w S A0 A1 A2 A3 A4 n0 n1 n2 n3 n4 c0 c1 c2 c3 c4 sq W) => (show Calls Tryz.prog 6 #[(.agg #[.slice A0 n0 c0,.slice A1 n1 c1,.slice A2 n2 c2,.slice A3 n3 c3,.slice A4 n4 c4,.int .i64 sq])] W fun e w' => e = .returned (.bool true)∧Below W.heap.size W w' from by have h1:=rlight17 (.agg #[.slice A0 n0 c0,.slice A1 n1 c1,.slice A2 n2 c2,.slice A3 n3 c3,.slice A4 n4 c4,.int .i64 sq]) S W h.st; rwa [hg] at h1))
 have HD:=Lib.hid (fun W (h:Bx14 w S A0 A1 A2 A3 A4 n0 n1 n2 n3 n4 c0 c1 c2 c3 c4 sq W) => rfine14 (.agg #[.slice A0 n0 c0,.slice A1 n1 c1,.slice A2 n2 c2,.slice A3 n3 c3,.slice A4 n4 c4,.int .i64 sq]) S true W h.st (by simp [hf]))
 have HRA:=Lib.hid (fun (i:Int) W (h:Bx14 w S A0 A1 A2 A3 A4 n0 n1 n2 n3 n4 c0 c1 c2 c3 c4 sq W) => ramount17 (.agg #[.slice A0 n0 c0,.slice A1 n1 c1,.slice A2 n2 c2,.slice A3 n3 c3,.slice A4 n4 c4,.int .i64 sq]) S hf i W h.st)
 have HT0:=Lib.hid (fun (i:Int) W (h:Bx14 w S A0 A1 A2 A3 A4 n0 n1 n2 n3 n4 c0 c1 c2 c3 c4 sq W) => rtickets15_0 (.agg #[.slice A0 n0 c0,.slice A1 n1 c1,.slice A2 n2 c2,.slice A3 n3 c3,.slice A4 n4 c4,.int .i64 sq]) S i W h.st)
 have HCO:=Lib.hid (fun W (h:Bx14 w S A0 A1 A2 A3 A4 n0 n1 n2 n3 n4 c0 c1 c2 c3 c4 sq W) => coins18 (.agg #[.slice A0 n0 c0,.slice A1 n1 c1,.slice A2 n2 c2,.slice A3 n3 c3,.slice A4 n4 c4,.int .i64 sq]) S wC wT W h.st hf hw)
 have HTI:=Lib.hid (fun W (h:Bx14 w S A0 A1 A2 A3 A4 n0 n1 n2 n3 n4 c0 c1 c2 c3 c4 sq W) => tickets18w (.agg #[.slice A0 n0 c0,.slice A1 n1 c1,.slice A2 n2 c2,.slice A3 n3 c3,.slice A4 n4 c4,.int .i64 sq]) S wC wT W h.st hf hw)
 have HTH:=Lib.hid (fun W (h:Bx14 w S A0 A1 A2 A3 A4 n0 n1 n2 n3 n4 c0 c1 c2 c3 c4 sq W) => threads18 (.agg #[.slice A0 n0 c0,.slice A1 n1 c1,.slice A2 n2 c2,.slice A3 n3 c3,.slice A4 n4 c4,.int .i64 sq]) S wC wT W h.st hf hw)
 obtain ⟨hfc,hft,hfs⟩:=hw.fits hf
 obtain ⟨hwc,hwt⟩:=hw.small hf
 have h96:S.T.length≤96:=hf.2.2.1.2.1.1
 have h32:S.H.length≤100:=Nat.le_trans hf.2.2.1.2.2.1.1 (by omega)
 have HFC:Hid (∀ c,Sm18 (qr18 (wC c))):=Lib.hid hfc
 have HFT:Hid (∀ c,Sm18 (qr18 (wT c))):=Lib.hid hft
 have HSM:Hid (∀ i,0≤th18 S wT i∧Sm18 (qr18 (th18 S wT i))):=Lib.hid (fun i => by
  have hl:=tks15_len S (fnd15 1 (i:Int)) S.T.length
  rw [th18_list]
  exact ⟨tsum18_nonneg (fun k => (hwt k).2.1) _,hfs _ _ (by omega)⟩)
 have HWN:Hid (∀ k,0≤wT k):=Lib.hid (fun k => (hwt k).2.1)
 have HLT:Hid (∀ c:Int,(tks15 S (isw15 c) S.T.length).length≤100):=Lib.hid (fun c => by have:=tks15_len S (isw15 c) S.T.length; omega)
 have HLX:Hid (∀ (c:Int) x,x∈tks15 S (isw15 c) S.T.length→x < n1):=Lib.hid (fun c x hx => by have h1:=(tks15_mem.1 hx).1; have h2:=hs.l1; omega)
 have HKC:Hid (∀ c:Nat,amt17 S (c:Int) S.T.length≠0→tsum18 wT (tks15 S (isw15 (c:Int)) S.T.length) (tks15 S (isw15 (c:Int)) S.T.length).length = wC c):=Lib.hid (fun c hc => by rw [hw.tsum_isw,hw.coin c hc])
 have hA:=amn17_int hf.2.2.2.2.1 0
 have hbd:=amt17_bound hf.2.2.2.2.1 0 S.T.length
 obtain ⟨z,hz⟩:∃ z,amn17 S 0 = z:=⟨_,rfl⟩
 have hkz:sumR (th18 S wT) S.H.length = (z:Rat):=by
  rw [hw.keeps hf,← hA,hz]
  rfl
 have hz30:z < 1073741824:=by omega
 have HR0:=Lib.hid (HRA.out 0)
 rw [← hA,hz] at HR0
 have hwr:IntKind.u64.wrap (z:Int) = (z:Int):=by rw [IntKind.wrap_u64]; omega
 have HIN:=Lib.hid (fun W => int4_b z W (by omega))
 have HFO:Hid (((List.range n2).map (fun i => qr18 (th18 S wT i))).foldl addQ (0,1) = (z,1)):=Lib.hid (by
  have h1:=qr18_sum (l:=(List.range n2).map (th18 S wT)) (fun y hy => by
   obtain ⟨k,_,rfl⟩:=List.mem_map.1 hy
   exact (HSM.out k).1)
  rw [List.map_map,lsum18_sumR,show n2 = S.H.length from hs.l2.symm,hkz,qr18_nat] at h1
  rw [show n2 = S.H.length from hs.l2.symm]
  exact h1)
 have HZ36:Hid (z < 65536 ^ 36∧1 < 65536 ^ 36):=Lib.hid ⟨Nat.lt_trans (by omega:z < 65536 ^ 2) (Nat.pow_lt_pow_right (by omega) (by omega)),by decide⟩
 have HL0:=Lib.hid hs.l0
 have HL1:=Lib.hid hs.l1
 have HL2:=Lib.hid hs.l2
 have hn2:n2≤100:=by have:=hs.l2; omega
 have HSS:=Lib.hid hs
 have hnb0:=hs.m0
 have hnb1:=hs.m1
 clear hs hx0 hxn hn hf hg hw hfc hft hfs hwc hwt h96 h32 hA hbd hz hkz hz30
 go_enter Tryz.func4,Tryz.ntmps4
 go_wp2_with fail
 refine (HC.out _).mono ?_
 rintro e u1 ⟨rfl,hb1⟩
 have HX1:=Lib.hid (HX0.out.step hb1)
 have q0:=HX1.out.x.cell 0
 have q1:=HX1.out.x.cell 1
 have q2:=HX1.out.x.cell 2
 have q3:=HX1.out.x.cell 3
 have q4:=HX1.out.x.cell 4
 have q5:=HX1.out.x.cell 5
 clear hb1 HC hW1 HX0 p0 p1 p2 p3 p4 p5
 go_wp2_with fail
 refine (HG.out _ HX1.out).mono ?_
 rintro e u2 ⟨rfl,hb2⟩
 have HX2:=Lib.hid (HX1.out.step hb2)
 have r0:=HX2.out.x.cell 0
 have r1:=HX2.out.x.cell 1
 have r2:=HX2.out.x.cell 2
 have r3:=HX2.out.x.cell 3
 have r4:=HX2.out.x.cell 4
 have r5:=HX2.out.x.cell 5
 clear hb2 HG HX1 q0 q1 q2 q3 q4 q5
 go_wp2_with fail
 refine (HD.out _ HX2.out).mono ?_
 rintro e u3 ⟨rfl,hb3⟩
 have HX3:=Lib.hid (HX2.out.step hb3)
 clear hb3 HD HX2 r0 r1 r2 r3 r4 r5
 have HXN:Hid (Bx14 w S A0 A1 A2 A3 A4 n0 n1 n2 n3 n4 c0 c1 c2 c3 c4 sq u3.drew):=Lib.hid (HX3.out.step (Below.refl _ _).drew)
 clear HX3
 obtain ⟨wn,hwn⟩:∃ W,u3.drew = W:=⟨_,rfl⟩
 rw [hwn] at HXN
 go_wp2_with fail
 refine wp_region_held_drew (S:=Bx14 w S A0 A1 A2 A3 A4 n0 n1 n2 n3 n4 c0 c1 c2 c3 c4 sq) (by kernel_rfl) (by rw [hwn]; exact HXN.out) (fun hHeld => ?_)
 rw [hwn] at hHeld ⊢
 clear hwn
 have HBS:=HXN
 refine tk 0 (v:=?_) (fun W hS => ?_) ?_
 rotate_left
 ·
  try dsimp only at hS
  have z0:=hS.x.cell 0
  have z1:=hS.x.cell 1
  have z2:=hS.x.cell 2
  have z3:=hS.x.cell 3
  have z4:=hS.x.cell 4
  have z5:=hS.x.cell 5
  go_simp
  try with_reducible rfl
 try simp only [Act.put,pt1,pt2,pt3]
 refine tk 3 (v:=?_) (fun W hS => ?_) ?_
 rotate_left
 ·
  try dsimp only at hS
  have z0:=hS.x.cell 0
  have z1:=hS.x.cell 1
  have z2:=hS.x.cell 2
  have z3:=hS.x.cell 3
  have z4:=hS.x.cell 4
  have z5:=hS.x.cell 5
  go_simp
  try with_reducible rfl
 try simp only [Act.put,pt1,pt2,pt3]
 refine rdy 1 (fun K hK => ?_)
 have HBS0:=HBS
 go_simp
 refine (HTH.out _ HBS0.out).mono ?_
 rintro e wn ⟨go,rfl,_,hr,hb⟩
 have HBS:=Lib.hid (HBS0.out.step hb)
 rw [HL2.out] at hr ⊢
 have HRW:=Lib.hid hr
 clear hb HBS0 hr
 refine hK.out _ _ HBS.out (fun hHeld => ?_)
 clear hK K
 try simp only [Act.put,pt1,pt2,pt3]
 refine rdy 2 (fun K hK => ?_)
 have HBS0:=HBS
 go_simp
 refine (sum18_any (some ⟨go,0,none⟩) _ n2 n2 wn (by simp) (HRW.out.rats (fun k _ => (HSM.out k).2)) hn2).mono ?_
 rintro e wn ⟨D1,j1,t1,D2,j2,t2,rfl,hx,hy,hb⟩
 have HBS:=Lib.hid (HBS0.out.step hb)
 rw [HFO.out] at hx hy
 have HX:=Lib.hid (hx.more (Nat.zero_le _))
 have HY:=Lib.hid (hy.more (Nat.zero_le _))
 clear hb HBS0 hx hy HRW
 refine hK.out _ _ HBS.out (fun hHeld => ?_)
 clear hK K
 try simp only [Act.put,pt1,pt2,pt3]
 refine rdy 4 (fun K hK => ?_)
 have HBS0:=HBS
 go_simp
 refine (HR0.out _ HBS0.out).mono ?_
 rintro e wn ⟨rfl,hb⟩
 have HBS:=Lib.hid (HBS0.out.step hb)
 have HX:=Lib.hid (HX.out.below hb)
 have HY:=Lib.hid (HY.out.below hb)
 clear hb HBS0
 refine hK.out _ _ HBS.out (fun hHeld => ?_)
 clear hK K
 try simp only [Act.put,pt1,pt2,pt3]
 refine tk 5 (v:=?_) (fun W hS => ?_) ?_
 rotate_left
 · (go_simp; try with_reducible rfl)
 try simp only [Act.put,pt1,pt2,pt3]
 refine rdy 6 (fun K hK => ?_)
 have HBS0:=HBS
 go_simp
 refine (HIN.out _).mono ?_
 rintro e wn ⟨E1,k1,s1,E2,k2,s2,rfl,hx,hy,hb⟩
 have HBS:=Lib.hid (HBS0.out.step hb)
 have HX:=Lib.hid (HX.out.below hb)
 have HY:=Lib.hid (HY.out.below hb)
 have HU:=Lib.hid hx
 have HW:=Lib.hid hy
 clear hb HBS0 hx hy
 refine hK.out _ _ HBS.out (fun hHeld => ?_)
 clear hK K
 try simp only [Act.put,pt1,pt2,pt3]
 refine rdy 7 (fun K hK => ?_)
 have HBS0:=HBS
 go_simp
 refine (same18 wn HX.out HY.out HU.out HW.out HZ36.out.1 HZ36.out.2).mono ?_
 rintro e wn ⟨rfl,hb⟩
 have HBS:=Lib.hid (HBS0.out.step hb)
 clear hb HBS0 HX HY HU HW
 refine hK.out _ _ HBS.out (fun hHeld => ?_)
 clear hK K
 try simp only [Act.put,pt1,pt2,pt3]
 refine tk 8 (v:=?_) (fun W hS => ?_) ?_
 rotate_left
 · (go_simp; try with_reducible rfl)
 try simp only [Act.put,pt1,pt2,pt3]
 refine wpAnyH_done (by kernel_rfl) ?_ _
 clear hHeld
 have HX4:=HBS
 clear HXN HTH HR0 HIN HFO HZ36 HSM HBS
 obtain ⟨u4,hu4⟩:∃ W,W = wn:=⟨_,rfl⟩
 subst hu4
 have hsf:∀ n:Int,(n != n) = false:=fun n => by simp
 go_upto_region 5 with (fail)
 have HXN:Hid (Bx14 w S A0 A1 A2 A3 A4 n0 n1 n2 n3 n4 c0 c1 c2 c3 c4 sq u4.drew):=Lib.hid (HX4.out.step (Below.refl _ _).drew)
 clear HX4
 obtain ⟨wn,hwn⟩:∃ W,u4.drew = W:=⟨_,rfl⟩
 rw [hwn] at HXN
 go_wp2_with fail
 refine wp_region_held_drew (S:=Bx14 w S A0 A1 A2 A3 A4 n0 n1 n2 n3 n4 c0 c1 c2 c3 c4 sq) (by kernel_rfl) (by rw [hwn]; exact HXN.out) (fun hHeld => ?_)
 rw [hwn] at hHeld ⊢
 clear hwn
 have HBS:=HXN
 refine tk 0 (v:=?_) (fun W hS => ?_) ?_
 rotate_left
 ·
  try dsimp only at hS
  have z0:=hS.x.cell 0
  have z1:=hS.x.cell 1
  have z2:=hS.x.cell 2
  have z3:=hS.x.cell 3
  have z4:=hS.x.cell 4
  have z5:=hS.x.cell 5
  go_simp
  try with_reducible rfl
 try simp only [Act.put,pt1,pt2,pt3]
 refine tk 2 (v:=?_) (fun W hS => ?_) ?_
 rotate_left
 ·
  try dsimp only at hS
  have z0:=hS.x.cell 0
  have z1:=hS.x.cell 1
  have z2:=hS.x.cell 2
  have z3:=hS.x.cell 3
  have z4:=hS.x.cell 4
  have z5:=hS.x.cell 5
  go_simp
  try with_reducible rfl
 try simp only [Act.put,pt1,pt2,pt3]
 refine rdy 1 (fun K hK => ?_)
 have HBS0:=HBS
 go_simp
 refine (HCO.out _ HBS0.out).mono ?_
 rintro e wn ⟨gC,rfl,_,hr,hb⟩
 have HBS:=Lib.hid (HBS0.out.step hb)
 rw [HL0.out] at hr ⊢
 have HKC1:=Lib.hid hr
 clear hb HBS0 hr
 refine hK.out _ _ HBS.out (fun hHeld => ?_)
 clear hK K
 try simp only [Act.put,pt1,pt2,pt3]
 refine rdy 3 (fun K hK => ?_)
 have HBS0:=HBS
 go_simp
 refine (HTI.out _ HBS0.out).mono ?_
 rintro e wn ⟨gT,rfl,_,hr,hb⟩
 have HBS:=Lib.hid (HBS0.out.step hb)
 have HKC1:=Lib.hid (HKC1.out.step hb)
 rw [HL1.out] at hr ⊢
 have HKT1:=Lib.hid hr
 clear hb HBS0 hr
 refine hK.out _ _ HBS.out (fun hHeld => ?_)
 clear hK K
 try simp only [Act.put,pt1,pt2,pt3]
 refine rdy 4 (fun K hK => ?_)
 go_simp
 refine hK.out _ _ HBS.out (fun hHeld => ?_)
 clear hK K
 try simp only [Act.put,pt1,pt2,pt3]
 refine rdy 5 (fun K hK => ?_)
 go_simp
 refine hK.out _ _ HBS.out (fun hHeld => ?_)
 clear hK K
 try simp only [Act.put,pt1,pt2,pt3]
 refine wpAnyH_done (by kernel_rfl) ?_ _
 clear hHeld
 have HX5:=HBS
 clear HXN HCO HTI HBS
 have HK0:Hid (Kp18 w S A0 A1 A2 A3 A4 n0 n1 n2 n3 n4 c0 c1 c2 c3 c4 sq gC gT wC wT wn):=Lib.hid ⟨⟨HX5.out,HSS.out⟩,HKC1.out,HKT1.out⟩
 have y0:=HX5.out.x.cell 0
 have y1:=HX5.out.x.cell 1
 clear HX5 HKC1 HKT1 HSS
 go_wp2_with fail
 clear y0 y1
 go_loopw [5] (fun i wr => ∃ c:Nat,i = .int .i64 (c:Int)∧c≤n0∧Hid (Kp18 w S A0 A1 A2 A3 A4 n0 n1 n2 n3 n4 c0 c1 c2 c3 c4 sq gC gT wC wT wr)) (fun i _ => n0 - (intOf i).toNat)
 case atStart => exact ⟨0,rfl,by omega,HK0⟩
 case round =>
  clear HK0
  obtain ⟨c,rfl,hc,HK⟩:=hrel
  by_cases hcn:c < n0
  ·
   have i0:(0:Int)≤(c:Int):=by omega
   have i1:(c:Int) < (n0:Int):=by omega
   have HRK:=Lib.hid (HRA.out (c:Int))
   have HKK:=Lib.hid (HKC.out c)
   obtain ⟨z,hz⟩:∃ z,amt17 S (c:Int) S.T.length = z:=⟨_,rfl⟩
   rw [hz] at HRK HKK
   have y0:=HK.out.b.b.x.cell 0
   have y1:=HK.out.b.b.x.cell 1
   have y2:=HK.out.b.b.x.cell 2
   have y3:=HK.out.b.b.x.cell 3
   have y4:=HK.out.b.b.x.cell 4
   have y5:=HK.out.b.b.x.cell 5
   clear hz
   by_cases hz0:z = 0
   ·
    subst hz0
    go_wp2_with fail
    refine (HRK.out _ HK.out.b.b).mono ?_
    rintro e w4 ⟨rfl,hb4⟩
    have HN:=Lib.hid (HK.out.step hb4)
    clear hb4 HRK HK HKK y0 y1 y2 y3 y4 y5
    go_wp2_with fail
    go_roundw
    case rel => exact ⟨c + 1,by go_num,by omega,HN⟩
    case measure => simp [intOf]; omega
   ·
    have hzb:(z == 0) = false:=by simp [hz0]
    have HZN:=Lib.hid hz0
    clear hz0
    go_wp2_with fail
    refine (HRK.out _ HK.out.b.b).mono ?_
    rintro e w4 ⟨rfl,hb4⟩
    have HN4:=Lib.hid (HK.out.step hb4)
    have HTC:=Lib.hid (HT0.out (c:Int))
    have hll:=HLT.out (c:Int)
    have HXL:=Lib.hid (HLX.out (c:Int))
    have HKD:=Lib.hid (HKK.out HZN.out)
    obtain ⟨l,hl⟩:∃ l,tks15 S (isw15 (c:Int)) S.T.length = l:=⟨_,rfl⟩
    rw [hl] at HTC hll HXL HKD
    obtain ⟨m,hm⟩:∃ m,l.length = m:=⟨_,rfl⟩
    have HM:=Lib.hid hm
    rw [hm] at hll HKD
    clear hl hm hb4 HRK HK HKK y0 y1 y2 y3 y4 y5 HZN
    have x0:=HN4.out.b.b.x.cell 0
    have x1:=HN4.out.b.b.x.cell 1
    have x2:=HN4.out.b.b.x.cell 2
    have x3:=HN4.out.b.b.x.cell 3
    have x4:=HN4.out.b.b.x.cell 4
    have x5:=HN4.out.b.b.x.cell 5
    go_wp2_with fail
    refine (HTC.out _ HN4.out.b.b).mono ?_
    rintro e w5 ⟨A,ca,rfl,hr5,hb5⟩
    rw [HM.out]
    have HN5:=Lib.hid (HN4.out.step hb5)
    have HRD:=Lib.hid hr5
    have HQ0:Hid (Kl18 w S A0 A1 A2 A3 A4 n0 n1 n2 n3 n4 c0 c1 c2 c3 c4 sq gC gT wC wT w5 l none 0 0 w5):=Lib.hid (Kl18.start l HN5.out)
    clear hr5 hb5 HN4 HTC x0 x1 x2 x3 x4 x5
    go_wp2_with fail
    go_loopw [6,8] (fun v i wr => ∃ (k cc:Nat) (B:Option Addr),v = .slice B k cc∧i = .int .i64 (k:Int)∧k≤m∧Hid (Kl18 w S A0 A1 A2 A3 A4 n0 n1 n2 n3 n4 c0 c1 c2 c3 c4 sq gC gT wC wT w5 l B k cc wr)) (fun _ i _ => m - (intOf i).toNat)
    case atStart => exact ⟨0,0,none,rfl,rfl,by omega,HQ0⟩
    case round =>
     clear HQ0
     obtain ⟨k,cc,B,rfl,rfl,hk,HQ⟩:=hrel
     by_cases hkm:k < m
     ·
      have hkl:k < l.length:=by rw [HM.out]; exact hkm
      obtain ⟨ga,oa,hA,hab,q0⟩:=(HRD.out.below HQ.out.z (Nat.le_refl _)).at_ hkl
      obtain ⟨j,hj⟩:∃ x,nth l k = x:=⟨_,rfl⟩
      have hj1:j < n1:=HXL.out j (by rw [← hj,nth_in hkl]; exact List.getElem_mem _)
      obtain ⟨C1,k1,s1,C2,k2,s2,e1,e2,v1,v2,_,_⟩:=HQ.out.t.cells hj1
      have f1:=(HQ.out.z.cell (World.block_lt_of_cell? _ _ e1)).trans e1
      have f2:=(HQ.out.z.cell (World.block_lt_of_cell? _ _ e2)).trans e2
      obtain ⟨Az,cz,W3,hrun,har⟩:=HQ.out.push HN5.out.c (D1:=C1) (i1:=k1) (t1:=s1) (D2:=C2) (i2:=k2) (t2:=s2) (by rw [hj]; exact v1) (by rw [hj]; exact v2) (by omega)
      rw [hj] at q0
      have j0:(0:Int)≤(k:Int):=by omega
      have j1:(k:Int) < (m:Int):=by omega
      have l0:(0:Int)≤(j:Int):=by omega
      have l1:(j:Int) < (n1:Int):=by omega
      have HRUN:=Lib.hid hrun
      have HAR:=Lib.hid har
      clear hrun har hab hj e1 e2 v1 v2 HQ hkl
      subst hA
      go_wp2_with (at_builtin; go_loud (refine wpList_append_14 _ rfl (.tmp 69) (.tmp 77) 44 rfl _ _ _ _ rfl rfl HRUN.out ?_))
      go_roundw
      case rel => exact ⟨k + 1,cz,Az,rfl,by go_num,by omega,HAR⟩
      case measure => simp [intOf]; omega
     ·
      obtain rfl:m = k:=by omega
      have j1:¬ (m:Int) < (m:Int):=by omega
      obtain ⟨C1,k1,s1,C2,k2,s2,e1,e2,v1,v2,_,_⟩:=HQ.out.p.c.cells hcn
      have HC1:=Lib.hid e1
      have HC2:=Lib.hid e2
      have hfo:((List.range m).map (fun j => qr18 (wT (nth l j)))).foldl addQ (0,1) = qr18 (wC c):=by rw [fold18_range l m HWN.out,HKD.out]
      have HSU:Hid (∀ W,Ly18 w S A0 A1 A2 A3 A4 n0 n1 n2 n3 n4 c0 c1 c2 c3 c4 sq wr W→Calls Tryz.prog 18 #[.slice B m cc] W (RetQ W (qr18 (wC c)).1 (qr18 (wC c)).2)):=Lib.hid (fun W h => by
       have h1:=sum18_any B ((List.range m).map (fun j => qr18 (wT (nth l j)))) m cc W (by simp) (by
        have hra:=HQ.out.q.rats HQ.out.z (fun j _ => HFT.out _)
        intro j x hj
        obtain ⟨b,o,B1,m1,d1,B2,m2,d2,a1,a2,a3,a4,a5,a6⟩:=hra j x hj
        exact ⟨b,o,B1,m1,d1,B2,m2,d2,a1,Nat.lt_of_lt_of_le a2 h.z.size,(h.z.cell (p:=⟨b,o + j * 2,none⟩) a2).trans a3,(h.z.cell (p:=⟨b,o + j * 2 + 1,none⟩) a2).trans a4,a5.below h.z,a6.below h.z⟩) hll
       rw [hfo] at h1
       exact h1)
      have HSA:Hid (∀ {W:World} {D1 D2:Option Addr} {i1 t1 i2 t2 L1 L2:Nat},Ly18 w S A0 A1 A2 A3 A4 n0 n1 n2 n3 n4 c0 c1 c2 c3 c4 sq wr W→Nv W L1 (.slice D1 i1 t1) (qr18 (wC c)).1→Nv W L2 (.slice D2 i2 t2) (qr18 (wC c)).2→Calls Tryz.prog 22 #[.agg #[.slice D1 i1 t1,.slice D2 i2 t2],.agg #[.slice C1 k1 s1,.slice C2 k2 s2]] W fun e w' => e = .returned (.bool true)∧Below W.heap.size W w'):=Lib.hid (fun h h1 h2 => by
       have h3:=ratioSame_r _ (h1.nr (HFC.out c).1) (h2.nr (HFC.out c).2) ((v1.below h.z).nr (HFC.out c).1) ((v2.below h.z).nr (HFC.out c).2) (by omega)
       rw [show ∀ p q:Nat,sameQ p q p q = true from fun p q => by simp [sameQ]] at h3
       exact h3)
      have HY:Hid (Ly18 w S A0 A1 A2 A3 A4 n0 n1 n2 n3 n4 c0 c1 c2 c3 c4 sq wr wr):=Lib.hid ⟨HQ.out.p.b,Below.refl _ _⟩
      have HKQ:=Lib.hid HQ.out.p
      clear e1 e2 v1 v2 hfo HQ
      go_upto_region 18 with (fail)
      have HXN:Hid (Ly18 w S A0 A1 A2 A3 A4 n0 n1 n2 n3 n4 c0 c1 c2 c3 c4 sq wr wr.drew):=Lib.hid (HY.out.step (Below.refl _ _).drew)
      clear HY
      obtain ⟨wn,hwn⟩:∃ W,wr.drew = W:=⟨_,rfl⟩
      rw [hwn] at HXN
      go_wp2_with fail
      refine wp_region_held_drew (S:=Ly18 w S A0 A1 A2 A3 A4 n0 n1 n2 n3 n4 c0 c1 c2 c3 c4 sq wr) (by kernel_rfl) (by rw [hwn]; exact HXN.out) (fun hHeld => ?_)
      rw [hwn] at hHeld ⊢
      clear hwn
      have HBS:=HXN
      refine tk 0 (v:=?_) (fun W hS => ?_) ?_
      rotate_left
      · (go_simp; try with_reducible rfl)
      try simp only [Act.put,pt1,pt2,pt3]
      refine tk 2 (v:=?_) (fun W hS => ?_) ?_
      rotate_left
      · (go_simp; try with_reducible rfl)
      try simp only [Act.put,pt1,pt2,pt3]
      refine tk 3 (v:=?_) (fun W hS => ?_) ?_
      rotate_left
      · (go_simp; try with_reducible rfl)
      try simp only [Act.put,pt1,pt2,pt3]
      refine tk 4 (v:=?_) (fun W hS => ?_) ?_
      rotate_left
      · (go_simp; try with_reducible rfl)
      try simp only [Act.put,pt1,pt2,pt3]
      refine tk 5 (v:=?_) (fun W hS => ?_) ?_
      rotate_left
      ·
       try dsimp only at hS
       have z0:=(hS.z.cell (World.block_lt_of_cell? _ _ HC1.out)).trans HC1.out
       have z1:=(hS.z.cell (World.block_lt_of_cell? _ _ HC2.out)).trans HC2.out
       go_simp
       try with_reducible rfl
      try simp only [Act.put,pt1,pt2,pt3]
      refine rdy 1 (fun K hK => ?_)
      have HBS0:=HBS
      go_simp
      refine (HSU.out _ HBS0.out).mono ?_
      rintro e wn ⟨D1,l1,t1,D2,l2,t2,rfl,hx,hy,hb⟩
      have HBS:=Lib.hid (HBS0.out.step hb)
      have HX:=Lib.hid hx
      have HYY:=Lib.hid hy
      clear hb HBS0 hx hy
      refine hK.out _ _ HBS.out (fun hHeld => ?_)
      clear hK K
      try simp only [Act.put,pt1,pt2,pt3]
      refine rdy 6 (fun K hK => ?_)
      have HBS0:=HBS
      go_simp
      refine (HSA.out HBS0.out HX.out HYY.out).mono ?_
      rintro e wn ⟨rfl,hb⟩
      have HBS:=Lib.hid (HBS0.out.step hb)
      clear hb HBS0 HX HYY
      refine hK.out _ _ HBS.out (fun hHeld => ?_)
      clear hK K
      try simp only [Act.put,pt1,pt2,pt3]
      refine tk 7 (v:=?_) (fun W hS => ?_) ?_
      rotate_left
      · (go_simp; try with_reducible rfl)
      try simp only [Act.put,pt1,pt2,pt3]
      refine wpAnyH_done (by kernel_rfl) ?_ _
      clear hHeld
      have HN:=Lib.hid (HKQ.out.step HBS.out.z)
      clear HXN HSU HSA HBS HKQ HC1 HC2
      go_wp2_with fail
      go_roundw
      case rel => exact ⟨c + 1,by go_num,by omega,HN⟩
      case measure => simp [intOf]; omega
  ·
   obtain rfl:n0 = c:=by omega
   have i1:¬ (n0:Int) < (n0:Int):=by omega
   go_wp2_with fail
   refine (alive18_any _).mono ?_
   rintro e x3 ⟨rfl,hb⟩
   have HB:=Lib.hid (HK.out.b.b.step hb)
   clear hb HK
   go_wp2_with fail
   go_ret
   exact ⟨rfl,HB.out.b⟩
theorem worthKeeps_all (W:World) (A00 A01 A02 A03 A04:Option Addr) (n00 n01 n02 n03 n04 c00 c01 c02 c03 c04:Nat) (q0:Int) (S0:Sv14) (h0:Small14 n00 n01 n02 n03 n04→SA14 W S0 A00 A01 A02 A03 A04 n00 n01 n02 n03 n04 c00 c01 c02 c03 c04 q0) :
  Calls Tryz.prog 4 #[.agg #[.slice A00 n00 c00,.slice A01 n01 c01,.slice A02 n02 c02,.slice A03 n03 c03,.slice A04 n04 c04,.int .i64 q0]] W fun e w' => e = .returned (.bool true)∧Below W.heap.size W w':=by
 by_cases hn:Small14 n00 n01 n02 n03 n04
 case neg => exact wkeeps18_no1 A00 A01 A02 A03 A04 n00 n01 n02 n03 n04 c00 c01 c02 c03 c04 q0 S0 W hn
 cases hg:light17 S0 with
 | false => exact wkeeps18_no2 A00 A01 A02 A03 A04 n00 n01 n02 n03 n04 c00 c01 c02 c03 c04 q0 S0 W (h0 hn) hn hg
 | true =>
  by_cases hf:Fine14 S0
  · exact wkeeps18_yes A00 A01 A02 A03 A04 n00 n01 n02 n03 n04 c00 c01 c02 c03 c04 q0 S0 W (h0 hn) hn hg hf
  · exact wkeeps18_no3 A00 A01 A02 A03 A04 n00 n01 n02 n03 n04 c00 c01 c02 c03 c04 q0 S0 W (h0 hn) hn hg hf
end Go.Proofs.YtgopgbfgbddggaaGreat
