/-
  For any state that may be, whose tickets are few enough for the document's answer: what its coins, tickets and threads are worth is the document's. No conditions.
-/
import Derived.Test.YtgopgbfgbddggaaGreatWT29
import Derived.Deep.Slices
import Derived.Deep.Strs
import Derived.Lib.AppendStr
import Derived.Test.YtgopgbfgbddggaaGreatChecked
import Derived.ChangeMaps5
set_option linter.all false
namespace Go.Proofs.YtgopgbfgbddggaaGreat
open Go.RowKit
set_option maxRecDepth 100000
theorem of18_10 (W:World):Calls Tryz.prog 31 #[.int .u64 10,.int .u64 3] W (RetDB W 10 3):=of4_b 10 3 W (by omega) (by omega) (by omega)
theorem of18_20 (W:World):Calls Tryz.prog 31 #[.int .u64 20,.int .u64 3] W (RetDB W 20 3):=of4_b 20 3 W (by omega) (by omega) (by omega)
theorem int18_10 (W:World):Calls Tryz.prog 19 #[.int .u64 10] W (RetDB W 10 1):=int4_b 10 W (by omega)
theorem int18_00 (W:World):Calls Tryz.prog 19 #[.int .u64 0] W (RetDB W 0 1):=int4_b 0 W (by omega)
theorem same18 {A1 A2 B1 B2:Option Addr} {n1 c1 n2 c2 i1 e1 i2 e2 a b lo lo':Nat} (w:World) (h1:Nv w 0 (.slice A1 n1 c1) a) (h2:Nv w 0 (.slice A2 n2 c2) b) (h3:∃ L,lo≤L∧Num w L (.agg #[.slice B1 i1 e1]) a) (h4:∃ L,lo'≤L∧Num w L (.agg #[.slice B2 i2 e2]) b) (ha:a < 65536 ^ 36) (hb:b < 65536 ^ 36) :
  Calls Tryz.prog 11 #[.agg #[.slice A1 n1 c1,.slice A2 n2 c2],.agg #[.slice B1 i1 e1,.slice B2 i2 e2]] w fun e w' => e = .returned (.bool true)∧Below w.heap.size w w':=by
 obtain ⟨L3,_,h3⟩:=h3
 obtain ⟨L4,_,h4⟩:=h4
 exact same4_r (j:=36) w h1 h2 h3 h4 ha hb (by omega)
theorem exs18_sa {wn:World} {g0 g4 g7:Nat} (h0:Blk wn g0 4 #[.bool true,.bool true]) (h4:Blk wn g4 53 #[.bool true,.int .i64 0,.int .i64 10,.int .i64 2,.int .i64 1,.bool true,.bool true,.int .i64 1,.int .i64 1,.int .i64 1,.int .i64 0,.bool true,.bool true,.int .i64 1,.int .i64 2,.int .i64 1,.int .i64 1,.bool true]) (h7:Blk wn g7 58 #[.int .i64 2,.int .i64 (-1),.int .i64 (-1),.int .i64 1,.int .i64 1,.int .i64 2,.int .i64 (-1),.int .i64 (-1),.int .i64 1,.int .i64 1]):SA14 wn exS18 (some ⟨g0,0,none⟩) (some ⟨g4,0,none⟩) (some ⟨g7,0,none⟩) none none 2 3 2 0 0 2 3 2 0 0 5:=by
 refine ⟨rfl,rfl,rfl,rfl,rfl,?_,?_,?_,Lq.nil _ _ _ _,Lq.nil _ _ _ _,by omega,by omega,by omega,by omega,by omega,by omega,by omega,by omega,by omega,by omega,rfl⟩
 ·
  refine fun _ => ⟨g0,0,rfl,h0.lt,fun k v hk => ?_⟩
  rw [Nat.zero_add,h0.cell]
  rw [show fl14 clC exS18.C = [.bool true,.bool true] from rfl] at hk
  simpa using hk
 ·
  refine fun _ => ⟨g4,0,rfl,h4.lt,fun k v hk => ?_⟩
  rw [Nat.zero_add,h4.cell]
  rw [show fl14 clT exS18.T = [.bool true,.int .i64 0,.int .i64 10,.int .i64 2,.int .i64 1,.bool true,.bool true,.int .i64 1,.int .i64 1,.int .i64 1,.int .i64 0,.bool true,.bool true,.int .i64 1,.int .i64 2,.int .i64 1,.int .i64 1,.bool true] from rfl] at hk
  simpa using hk
 ·
  refine fun _ => ⟨g7,0,rfl,h7.lt,fun k v hk => ?_⟩
  rw [Nat.zero_add,h7.cell]
  rw [show fl14 clH exS18.H = [.int .i64 2,.int .i64 (-1),.int .i64 (-1),.int .i64 1,.int .i64 1,.int .i64 2,.int .i64 (-1),.int .i64 (-1),.int .i64 1,.int .i64 1] from rfl] at hk
  simpa using hk
set_option maxHeartbeats 16000000 in
theorem alive18_any (w:World):Calls Tryz.prog 8 #[] w fun e w' => e = .returned (.bool true)∧Below w.heap.size w w':=by
 obtain ⟨wC,wT,hw⟩:=wo18_ex exs18_fine
 have hb0:=b1' w (.cells #[.int .i64 2,.int .i64 (-1),.int .i64 (-1),.int .i64 1,.int .i64 1] 58)
 have hk0:=Blk.new w 58 #[.int .i64 2,.int .i64 (-1),.int .i64 (-1),.int .i64 1,.int .i64 1]
 obtain ⟨wa,hwa⟩:∃ W,w.alloc (.cells #[.int .i64 2,.int .i64 (-1),.int .i64 (-1),.int .i64 1,.int .i64 1] 58) = W:=⟨_,rfl⟩
 rw [hwa] at hb0 hk0
 have HB0:=Lib.hid hb0
 have HK0:=Lib.hid hk0
 have HWO:=Lib.hid hw
 clear hb0 hk0 hw
 go_enter Tryz.func8,Tryz.ntmps8
 go_upto_region 2 with (fail)
 try rw [hwa]
 refine built18 HK0.out (fun _ _ _ _ _ h => h) (fun x5 x6 x7 x8 x9 x10 x11 x12 x13 g0 g4 g7 g9 wn hbn h9 h0 h4 h7 => ?_)
 have HB1:Hid (Below w.heap.size w wn):=Lib.hid (HB0.out.trans (hbn.mono HB0.out.size))
 have HS1:=Lib.hid (exs18_sa h0 h4 h7)
 have HK9:=Lib.hid h9
 have z0:=h9.cell 0
 have z1:=h9.cell 1
 have z2:=h9.cell 2
 have z3:=h9.cell 3
 have z4:=h9.cell 4
 have z5:=h9.cell 5
 clear hbn h9 h0 h4 h7 HB0 HK0 hwa
 go_wp2_with fail
 refine (threads18 (.agg #[.slice (some ⟨g0,0,none⟩) 2 2,.slice (some ⟨g4,0,none⟩) 3 3,.slice (some ⟨g7,0,none⟩) 2 2,.slice none 0 0,.slice none 0 0,.int .i64 5]) exS18 wC wT wn ⟨_,_,_,_,_,_,_,_,_,_,_,_,_,_,_,_,rfl,HS1.out⟩ exs18_fine HWO.out).mono ?_
 rintro e w4 ⟨go,rfl,hg,hr,hb4⟩
 rw [show exS18.H.length = 2 from rfl] at hr ⊢
 have HB4:=Lib.hid (HB1.out.trans (hb4.mono HB1.out.size))
 have HS4:=Lib.hid (HS1.out.step hb4)
 have h94:=HK9.out.below hb4 HK9.out.lt
 have HZ0:Hid (w4.cell? ⟨g9,0,none⟩ = some (.slice (some ⟨g0,0,none⟩) 2 2)):=Lib.hid (h94.cell 0)
 have HZ1:Hid (w4.cell? ⟨g9,1,none⟩ = some (.slice (some ⟨g4,0,none⟩) 3 3)):=Lib.hid (h94.cell 1)
 have HZ2:Hid (w4.cell? ⟨g9,2,none⟩ = some (.slice (some ⟨g7,0,none⟩) 2 2)):=Lib.hid (h94.cell 2)
 have HZ3:Hid (w4.cell? ⟨g9,3,none⟩ = some (.slice none 0 0)):=Lib.hid (h94.cell 3)
 have HZ4:Hid (w4.cell? ⟨g9,4,none⟩ = some (.slice none 0 0)):=Lib.hid (h94.cell 4)
 have HZ5:Hid (w4.cell? ⟨g9,5,none⟩ = some (.int .i64 5)):=Lib.hid (h94.cell 5)
 obtain ⟨C1,k1,r1,C2,k2,r2,e1,e2,v1,v2,_,_⟩:=hr.cells (k:=0) (by omega)
 obtain ⟨C3,k3,r3,C4,k4,r4,e3,e4,v3,v4,_,_⟩:=hr.cells (k:=1) (by omega)
 obtain ⟨ht0,ht1⟩:=exs18_th HWO.out
 try dsimp only at v1 v2 v3 v4
 rw [ht0,exs18_q1] at v1 v2
 rw [ht1,exs18_q2] at v3 v4
 have HC1:Hid (w4.cell? ⟨go,0,none⟩ = some (.slice C1 k1 r1)):=Lib.hid e1
 have HC2:Hid (w4.cell? ⟨go,1,none⟩ = some (.slice C2 k2 r2)):=Lib.hid e2
 have HC3:Hid (w4.cell? ⟨go,2,none⟩ = some (.slice C3 k3 r3)):=Lib.hid e3
 have HC4:Hid (w4.cell? ⟨go,3,none⟩ = some (.slice C4 k4 r4)):=Lib.hid e4
 have HV1:=Lib.hid v1
 have HV2:=Lib.hid v2
 have HV3:=Lib.hid v3
 have HV4:=Lib.hid v4
 have HT0:Hid (∀ W,Be18 w4 W→Calls Tryz.prog 12 #[(.agg #[.slice (some ⟨g0,0,none⟩) 2 2,.slice (some ⟨g4,0,none⟩) 3 3,.slice (some ⟨g7,0,none⟩) 2 2,.slice none 0 0,.slice none 0 0,.int .i64 5]),.int .i64 0] W (RetQ0 W 10 1)):=Lib.hid (fun W h => by
  have h1:=ticketw18 (.agg #[.slice (some ⟨g0,0,none⟩) 2 2,.slice (some ⟨g4,0,none⟩) 3 3,.slice (some ⟨g7,0,none⟩) 2 2,.slice none 0 0,.slice none 0 0,.int .i64 5]) exS18 wC wT 0 W ⟨_,_,_,_,_,_,_,_,_,_,_,_,_,_,_,_,rfl,HS4.out.step h.z⟩ exs18_fine HWO.out (by decide)
  rw [(exs18_w HWO.out).1,show qr18 10 = (10,1) from qr18_nat 10] at h1
  exact h1)
 have HT9:Hid (∀ W,Be18 w4 W→Calls Tryz.prog 12 #[(.agg #[.slice (some ⟨g0,0,none⟩) 2 2,.slice (some ⟨g4,0,none⟩) 3 3,.slice (some ⟨g7,0,none⟩) 2 2,.slice none 0 0,.slice none 0 0,.int .i64 5]),.int .i64 9] W (RetQ0 W 0 1)):=Lib.hid (fun W h => (ticketw18_no (.agg #[.slice (some ⟨g0,0,none⟩) 2 2,.slice (some ⟨g4,0,none⟩) 3 3,.slice (some ⟨g7,0,none⟩) 2 2,.slice none 0 0,.slice none 0 0,.int .i64 5]) exS18 9 W ⟨_,_,_,_,_,_,_,_,_,_,_,_,_,_,_,_,rfl,HS4.out.step h.z⟩ (by decide +kernel)).mono (fun e w' h => h.q0))
 have HN4:Hid (Be18 w4 w4):=Lib.hid ⟨Below.refl _ _⟩
 have hl36:(1:Nat) < 65536 ^ 36∧(3:Nat) < 65536 ^ 36∧(10:Nat) < 65536 ^ 36∧(20:Nat) < 65536 ^ 36∧(0:Nat) < 65536 ^ 36:=by decide
 have HLT:=Lib.hid hl36
 clear hg hr hb4 h94 e1 e2 e3 e4 v1 v2 v3 v4 ht0 ht1 HB1 HS1 HK9 z0 z1 z2 z3 z4 z5 hl36
 have HXN:Hid (Be18 w4 w4.drew):=Lib.hid (HN4.out.step (Below.refl _ _).drew)
 clear HN4
 obtain ⟨wn,hwn⟩:∃ W,w4.drew = W:=⟨_,rfl⟩
 rw [hwn] at HXN
 go_wp2_with fail
 refine wp_region_held_drew (S:=Be18 w4) (by kernel_rfl) (by rw [hwn]; exact HXN.out) (fun hHeld => ?_)
 rw [hwn] at hHeld ⊢
 clear hwn
 have HBS:=HXN
 refine tk 0 (v:=?_) (fun W hS => ?_) ?_
 rotate_left
 · (go_simp; try with_reducible rfl)
 try simp only [Act.put,pt1,pt2,pt3]
 refine tk 1 (v:=?_) (fun W hS => ?_) ?_
 rotate_left
 · (go_simp; try with_reducible rfl)
 try simp only [Act.put,pt1,pt2,pt3]
 refine tk 2 (v:=?_) (fun W hS => ?_) ?_
 rotate_left
 · (go_simp; try with_reducible rfl)
 try simp only [Act.put,pt1,pt2,pt3]
 refine tk 3 (v:=?_) (fun W hS => ?_) ?_
 rotate_left
 · (go_simp; try with_reducible rfl)
 try simp only [Act.put,pt1,pt2,pt3]
 refine tk 4 (v:=?_) (fun W hS => ?_) ?_
 rotate_left
 · (go_simp; try with_reducible rfl)
 try simp only [Act.put,pt1,pt2,pt3]
 refine tk 5 (v:=?_) (fun W hS => ?_) ?_
 rotate_left
 · (go_simp; try with_reducible rfl)
 try simp only [Act.put,pt1,pt2,pt3]
 refine tk 6 (v:=?_) (fun W hS => ?_) ?_
 rotate_left
 ·
  try dsimp only at hS
  have z0:=(hS.z.cell (World.block_lt_of_cell? _ _ HC1.out)).trans HC1.out
  have z1:=(hS.z.cell (World.block_lt_of_cell? _ _ HC2.out)).trans HC2.out
  go_simp
  try with_reducible rfl
 try simp only [Act.put,pt1,pt2,pt3]
 refine rdy 7 (fun K hK => ?_)
 have HBS0:=HBS
 go_simp
 refine (of18_10 wn).mono ?_
 rintro e wn ⟨D1,i1,t1,D2,i2,t2,rfl,hx,hy,hb⟩
 have HBS:=Lib.hid (HBS0.out.step hb)
 have HX:=Lib.hid hx
 have HY:=Lib.hid hy
 clear hb HBS0 hx hy
 refine hK.out _ _ HBS.out (fun hHeld => ?_)
 clear hK K
 try simp only [Act.put,pt1,pt2,pt3]
 refine rdy 8 (fun K hK => ?_)
 have HBS0:=HBS
 go_simp
 refine (same18 wn (HV1.out.below HBS0.out.z) (HV2.out.below HBS0.out.z) HX.out HY.out HLT.out.2.2.1 HLT.out.2.1).mono ?_
 rintro e wn ⟨rfl,hb⟩
 have HBS:=Lib.hid (HBS0.out.step hb)
 clear hb HBS0 HX HY
 refine hK.out _ _ HBS.out (fun hHeld => ?_)
 clear hK K
 try simp only [Act.put,pt1,pt2,pt3]
 refine tk 9 (v:=?_) (fun W hS => ?_) ?_
 rotate_left
 · (go_simp; try with_reducible rfl)
 try simp only [Act.put,pt1,pt2,pt3]
 refine tk 10 (v:=?_) (fun W hS => ?_) ?_
 rotate_left
 · (go_simp; try with_reducible rfl)
 try simp only [Act.put,pt1,pt2,pt3]
 refine tk 11 (v:=?_) (fun W hS => ?_) ?_
 rotate_left
 · (go_simp; try with_reducible rfl)
 try simp only [Act.put,pt1,pt2,pt3]
 refine tk 12 (v:=?_) (fun W hS => ?_) ?_
 rotate_left
 · (go_simp; try with_reducible rfl)
 try simp only [Act.put,pt1,pt2,pt3]
 refine tk 13 (v:=?_) (fun W hS => ?_) ?_
 rotate_left
 ·
  try dsimp only at hS
  have z0:=(hS.z.cell (World.block_lt_of_cell? _ _ HC3.out)).trans HC3.out
  have z1:=(hS.z.cell (World.block_lt_of_cell? _ _ HC4.out)).trans HC4.out
  go_simp
  try with_reducible rfl
 try simp only [Act.put,pt1,pt2,pt3]
 refine rdy 14 (fun K hK => ?_)
 have HBS0:=HBS
 go_simp
 refine (of18_20 wn).mono ?_
 rintro e wn ⟨D1,i1,t1,D2,i2,t2,rfl,hx,hy,hb⟩
 have HBS:=Lib.hid (HBS0.out.step hb)
 have HX:=Lib.hid hx
 have HY:=Lib.hid hy
 clear hb HBS0 hx hy
 refine hK.out _ _ HBS.out (fun hHeld => ?_)
 clear hK K
 try simp only [Act.put,pt1,pt2,pt3]
 refine rdy 15 (fun K hK => ?_)
 have HBS0:=HBS
 go_simp
 refine (same18 wn (HV3.out.below HBS0.out.z) (HV4.out.below HBS0.out.z) HX.out HY.out HLT.out.2.2.2.1 HLT.out.2.1).mono ?_
 rintro e wn ⟨rfl,hb⟩
 have HBS:=Lib.hid (HBS0.out.step hb)
 clear hb HBS0 HX HY
 refine hK.out _ _ HBS.out (fun hHeld => ?_)
 clear hK K
 try simp only [Act.put,pt1,pt2,pt3]
 refine tk 16 (v:=?_) (fun W hS => ?_) ?_
 rotate_left
 · (go_simp; try with_reducible rfl)
 try simp only [Act.put,pt1,pt2,pt3]
 refine tk 17 (v:=?_) (fun W hS => ?_) ?_
 rotate_left
 · (go_simp; try with_reducible rfl)
 try simp only [Act.put,pt1,pt2,pt3]
 refine tk 18 (v:=?_) (fun W hS => ?_) ?_
 rotate_left
 ·
  try dsimp only at hS
  have z0:=(hS.z.cell (World.block_lt_of_cell? _ _ HZ0.out)).trans HZ0.out
  have z1:=(hS.z.cell (World.block_lt_of_cell? _ _ HZ1.out)).trans HZ1.out
  have z2:=(hS.z.cell (World.block_lt_of_cell? _ _ HZ2.out)).trans HZ2.out
  have z3:=(hS.z.cell (World.block_lt_of_cell? _ _ HZ3.out)).trans HZ3.out
  have z4:=(hS.z.cell (World.block_lt_of_cell? _ _ HZ4.out)).trans HZ4.out
  have z5:=(hS.z.cell (World.block_lt_of_cell? _ _ HZ5.out)).trans HZ5.out
  go_simp
  try with_reducible rfl
 try simp only [Act.put,pt1,pt2,pt3]
 refine rdy 19 (fun K hK => ?_)
 have HBS0:=HBS
 go_simp
 refine (HT0.out _ HBS0.out).mono ?_
 rintro e wn ⟨E1,l1,s1,E2,l2,s2,rfl,hx,hy,hb⟩
 have HBS:=Lib.hid (HBS0.out.step hb)
 have HU:=Lib.hid hx
 have HW:=Lib.hid hy
 clear hb HBS0 hx hy
 refine hK.out _ _ HBS.out (fun hHeld => ?_)
 clear hK K
 try simp only [Act.put,pt1,pt2,pt3]
 refine rdy 20 (fun K hK => ?_)
 have HBS0:=HBS
 go_simp
 refine (int18_10 wn).mono ?_
 rintro e wn ⟨D1,i1,t1,D2,i2,t2,rfl,hx,hy,hb⟩
 have HBS:=Lib.hid (HBS0.out.step hb)
 have HU:=Lib.hid (HU.out.below hb)
 have HW:=Lib.hid (HW.out.below hb)
 have HX:=Lib.hid hx
 have HY:=Lib.hid hy
 clear hb HBS0 hx hy
 refine hK.out _ _ HBS.out (fun hHeld => ?_)
 clear hK K
 try simp only [Act.put,pt1,pt2,pt3]
 refine rdy 21 (fun K hK => ?_)
 have HBS0:=HBS
 go_simp
 refine (same18 wn HU.out HW.out HX.out HY.out HLT.out.2.2.1 HLT.out.1).mono ?_
 rintro e wn ⟨rfl,hb⟩
 have HBS:=Lib.hid (HBS0.out.step hb)
 clear hb HBS0 HX HY
 refine hK.out _ _ HBS.out (fun hHeld => ?_)
 clear hK K
 try simp only [Act.put,pt1,pt2,pt3]
 refine tk 22 (v:=?_) (fun W hS => ?_) ?_
 rotate_left
 · (go_simp; try with_reducible rfl)
 try simp only [Act.put,pt1,pt2,pt3]
 refine tk 23 (v:=?_) (fun W hS => ?_) ?_
 rotate_left
 · (go_simp; try with_reducible rfl)
 try simp only [Act.put,pt1,pt2,pt3]
 refine tk 24 (v:=?_) (fun W hS => ?_) ?_
 rotate_left
 ·
  try dsimp only at hS
  have z0:=(hS.z.cell (World.block_lt_of_cell? _ _ HZ0.out)).trans HZ0.out
  have z1:=(hS.z.cell (World.block_lt_of_cell? _ _ HZ1.out)).trans HZ1.out
  have z2:=(hS.z.cell (World.block_lt_of_cell? _ _ HZ2.out)).trans HZ2.out
  have z3:=(hS.z.cell (World.block_lt_of_cell? _ _ HZ3.out)).trans HZ3.out
  have z4:=(hS.z.cell (World.block_lt_of_cell? _ _ HZ4.out)).trans HZ4.out
  have z5:=(hS.z.cell (World.block_lt_of_cell? _ _ HZ5.out)).trans HZ5.out
  go_simp
  try with_reducible rfl
 try simp only [Act.put,pt1,pt2,pt3]
 refine rdy 25 (fun K hK => ?_)
 have HBS0:=HBS
 go_simp
 refine (HT9.out _ HBS0.out).mono ?_
 rintro e wn ⟨E1,l1,s1,E2,l2,s2,rfl,hx,hy,hb⟩
 have HBS:=Lib.hid (HBS0.out.step hb)
 have HU:=Lib.hid hx
 have HW:=Lib.hid hy
 clear hb HBS0 hx hy
 refine hK.out _ _ HBS.out (fun hHeld => ?_)
 clear hK K
 try simp only [Act.put,pt1,pt2,pt3]
 refine rdy 26 (fun K hK => ?_)
 have HBS0:=HBS
 go_simp
 refine (int18_00 wn).mono ?_
 rintro e wn ⟨D1,i1,t1,D2,i2,t2,rfl,hx,hy,hb⟩
 have HBS:=Lib.hid (HBS0.out.step hb)
 have HU:=Lib.hid (HU.out.below hb)
 have HW:=Lib.hid (HW.out.below hb)
 have HX:=Lib.hid hx
 have HY:=Lib.hid hy
 clear hb HBS0 hx hy
 refine hK.out _ _ HBS.out (fun hHeld => ?_)
 clear hK K
 try simp only [Act.put,pt1,pt2,pt3]
 refine rdy 27 (fun K hK => ?_)
 have HBS0:=HBS
 go_simp
 refine (same18 wn HU.out HW.out HX.out HY.out HLT.out.2.2.2.2 HLT.out.1).mono ?_
 rintro e wn ⟨rfl,hb⟩
 have HBS:=Lib.hid (HBS0.out.step hb)
 clear hb HBS0 HX HY
 refine hK.out _ _ HBS.out (fun hHeld => ?_)
 clear hK K
 try simp only [Act.put,pt1,pt2,pt3]
 refine tk 28 (v:=?_) (fun W hS => ?_) ?_
 rotate_left
 · (go_simp; try with_reducible rfl)
 try simp only [Act.put,pt1,pt2,pt3]
 refine rdy 29 (fun K hK => ?_)
 go_simp
 refine hK.out _ _ HBS.out (fun hHeld => ?_)
 clear hK K
 try simp only [Act.put,pt1,pt2,pt3]
 refine wpAnyH_done (by kernel_rfl) ?_ _
 clear hHeld
 clear HXN HC1 HC2 HC3 HC4 HV1 HV2 HV3 HV4
 go_wp2_with fail
 go_ret
 exact ⟨rfl,HB4.out.trans (HBS.out.z.mono HB4.out.size)⟩
set_option maxHeartbeats 2000000 in
theorem wtells18_no1 (A0 A1 A2 A3 A4:Option Addr) (n0 n1 n2 n3 n4 c0 c1 c2 c3 c4:Nat) (sq:Int) (S:Sv14) (w:World) (hn:¬ Small14 n0 n1 n2 n3 n4) :
  Calls Tryz.prog 3 #[(.agg #[.slice A0 n0 c0,.slice A1 n1 c1,.slice A2 n2 c2,.slice A3 n3 c3,.slice A4 n4 c4,.int .i64 sq])] w fun e w' => e = .returned (.bool true)∧Below w.heap.size w w':=by
 have hb0:=b1' w (.cells #[.slice A0 n0 c0,.slice A1 n1 c1,.slice A2 n2 c2,.slice A3 n3 c3,.slice A4 n4 c4,.int .i64 sq] 28)
 have hk0:=Blk.new w 28 #[.slice A0 n0 c0,.slice A1 n1 c1,.slice A2 n2 c2,.slice A3 n3 c3,.slice A4 n4 c4,.int .i64 sq]
 obtain ⟨W0,hW0⟩:∃ W,w.alloc (.cells #[.slice A0 n0 c0,.slice A1 n1 c1,.slice A2 n2 c2,.slice A3 n3 c3,.slice A4 n4 c4,.int .i64 sq] 28) = W:=⟨_,rfl⟩
 rw [hW0] at hb0 hk0
 have p0:=hk0.cell 0
 have p1:=hk0.cell 1
 have p2:=hk0.cell 2
 have p3:=hk0.cell 3
 have p4:=hk0.cell 4
 have p5:=hk0.cell 5
 have HB0:=Lib.hid hb0
 have HC:=Lib.hid (fun W => small14 A0 A1 A2 A3 A4 n0 n1 n2 n3 n4 c0 c1 c2 c3 c4 sq false W (by simp [hn]))
 clear hb0 hk0 hn
 go_enter Tryz.func3,Tryz.ntmps3
 go_wp2_with fail
 refine (HC.out _).mono ?_
 rintro e u1 ⟨rfl,hb1⟩
 have HB1:=Lib.hid (HB0.out.trans (hb1.mono HB0.out.size))
 clear hb1 HC
 go_wp2_with fail
 refine (alive18_any _).mono ?_
 rintro e u2 ⟨rfl,hb2⟩
 have HB2:=Lib.hid (HB1.out.trans (hb2.mono HB1.out.size))
 clear hb2
 go_wp2_with fail
 go_ret
 exact ⟨rfl,HB2.out⟩
set_option maxHeartbeats 2000000 in
theorem wtells18_no2 (A0 A1 A2 A3 A4:Option Addr) (n0 n1 n2 n3 n4 c0 c1 c2 c3 c4:Nat) (sq:Int) (S:Sv14) (w:World) (hs:SA14 w S A0 A1 A2 A3 A4 n0 n1 n2 n3 n4 c0 c1 c2 c3 c4 sq) (hn:Small14 n0 n1 n2 n3 n4) (hg:light17 S = false) :
  Calls Tryz.prog 3 #[(.agg #[.slice A0 n0 c0,.slice A1 n1 c1,.slice A2 n2 c2,.slice A3 n3 c3,.slice A4 n4 c4,.int .i64 sq])] w fun e w' => e = .returned (.bool true)∧Below w.heap.size w w':=by
 have hx0:=Bx14.new hs
 have hxn:=hx0.step (Below.refl _ _).drew
 obtain ⟨W1,hW1⟩:∃ W,w.alloc (.cells #[.slice A0 n0 c0,.slice A1 n1 c1,.slice A2 n2 c2,.slice A3 n3 c3,.slice A4 n4 c4,.int .i64 sq] 28) = W:=⟨_,rfl⟩
 rw [hW1] at hx0 hxn
 have HX0:=Lib.hid hx0
 have p0:=hx0.x.cell 0
 have p1:=hx0.x.cell 1
 have p2:=hx0.x.cell 2
 have p3:=hx0.x.cell 3
 have p4:=hx0.x.cell 4
 have p5:=hx0.x.cell 5
 have HC:=Lib.hid (fun W => small14 A0 A1 A2 A3 A4 n0 n1 n2 n3 n4 c0 c1 c2 c3 c4 sq true W (by simp [hn]))
 have HD0:=Lib.hid (fun W (h:Bx14 w S A0 A1 A2 A3 A4 n0 n1 n2 n3 n4 c0 c1 c2 c3 c4 sq W) => (show Calls Tryz.prog 6 #[(.agg #[.slice A0 n0 c0,.slice A1 n1 c1,.slice A2 n2 c2,.slice A3 n3 c3,.slice A4 n4 c4,.int .i64 sq])] W fun e w' => e = .returned (.bool false)∧Below W.heap.size W w' from by have h1:=rlight17 (.agg #[.slice A0 n0 c0,.slice A1 n1 c1,.slice A2 n2 c2,.slice A3 n3 c3,.slice A4 n4 c4,.int .i64 sq]) S W h.st; rwa [hg] at h1))
 clear hs hx0 hxn hn hg
 go_enter Tryz.func3,Tryz.ntmps3
 go_wp2_with fail
 refine (HC.out _).mono ?_
 rintro e u1 ⟨rfl,hb1⟩
 have HX1:=Lib.hid (HX0.out.step hb1)
 clear hb1 HC HX0 p0 p1 p2 p3 p4 p5
 have q10:=HX1.out.x.cell 0
 have q11:=HX1.out.x.cell 1
 have q12:=HX1.out.x.cell 2
 have q13:=HX1.out.x.cell 3
 have q14:=HX1.out.x.cell 4
 have q15:=HX1.out.x.cell 5
 go_wp2_with fail
 refine (HD0.out _ HX1.out).mono ?_
 rintro e u2 ⟨rfl,hb2⟩
 have HX2:=Lib.hid (HX1.out.step hb2)
 clear hb2 HD0 HX1 q10 q11 q12 q13 q14 q15
 go_wp2_with fail
 refine (alive18_any _).mono ?_
 rintro e u3 ⟨rfl,hb3⟩
 have HX3:=Lib.hid (HX2.out.step hb3)
 clear hb3
 go_wp2_with fail
 go_ret
 exact ⟨rfl,HX3.out.b⟩
set_option maxHeartbeats 2000000 in
theorem wtells18_no3 (A0 A1 A2 A3 A4:Option Addr) (n0 n1 n2 n3 n4 c0 c1 c2 c3 c4:Nat) (sq:Int) (S:Sv14) (w:World) (hs:SA14 w S A0 A1 A2 A3 A4 n0 n1 n2 n3 n4 c0 c1 c2 c3 c4 sq) (hn:Small14 n0 n1 n2 n3 n4) (hg:light17 S = true) (hf:¬ Fine14 S) :
  Calls Tryz.prog 3 #[(.agg #[.slice A0 n0 c0,.slice A1 n1 c1,.slice A2 n2 c2,.slice A3 n3 c3,.slice A4 n4 c4,.int .i64 sq])] w fun e w' => e = .returned (.bool true)∧Below w.heap.size w w':=by
 have hx0:=Bx14.new hs
 have hxn:=hx0.step (Below.refl _ _).drew
 obtain ⟨W1,hW1⟩:∃ W,w.alloc (.cells #[.slice A0 n0 c0,.slice A1 n1 c1,.slice A2 n2 c2,.slice A3 n3 c3,.slice A4 n4 c4,.int .i64 sq] 28) = W:=⟨_,rfl⟩
 rw [hW1] at hx0 hxn
 have HX0:=Lib.hid hx0
 have p0:=hx0.x.cell 0
 have p1:=hx0.x.cell 1
 have p2:=hx0.x.cell 2
 have p3:=hx0.x.cell 3
 have p4:=hx0.x.cell 4
 have p5:=hx0.x.cell 5
 have HC:=Lib.hid (fun W => small14 A0 A1 A2 A3 A4 n0 n1 n2 n3 n4 c0 c1 c2 c3 c4 sq true W (by simp [hn]))
 have HD0:=Lib.hid (fun W (h:Bx14 w S A0 A1 A2 A3 A4 n0 n1 n2 n3 n4 c0 c1 c2 c3 c4 sq W) => (show Calls Tryz.prog 6 #[(.agg #[.slice A0 n0 c0,.slice A1 n1 c1,.slice A2 n2 c2,.slice A3 n3 c3,.slice A4 n4 c4,.int .i64 sq])] W fun e w' => e = .returned (.bool true)∧Below W.heap.size W w' from by have h1:=rlight17 (.agg #[.slice A0 n0 c0,.slice A1 n1 c1,.slice A2 n2 c2,.slice A3 n3 c3,.slice A4 n4 c4,.int .i64 sq]) S W h.st; rwa [hg] at h1))
 have HD1:=Lib.hid (fun W (h:Bx14 w S A0 A1 A2 A3 A4 n0 n1 n2 n3 n4 c0 c1 c2 c3 c4 sq W) => rfine14 (.agg #[.slice A0 n0 c0,.slice A1 n1 c1,.slice A2 n2 c2,.slice A3 n3 c3,.slice A4 n4 c4,.int .i64 sq]) S false W h.st (by simp [hf]))
 clear hs hx0 hxn hn hg hf
 go_enter Tryz.func3,Tryz.ntmps3
 go_wp2_with fail
 refine (HC.out _).mono ?_
 rintro e u1 ⟨rfl,hb1⟩
 have HX1:=Lib.hid (HX0.out.step hb1)
 clear hb1 HC HX0 p0 p1 p2 p3 p4 p5
 have q10:=HX1.out.x.cell 0
 have q11:=HX1.out.x.cell 1
 have q12:=HX1.out.x.cell 2
 have q13:=HX1.out.x.cell 3
 have q14:=HX1.out.x.cell 4
 have q15:=HX1.out.x.cell 5
 go_wp2_with fail
 refine (HD0.out _ HX1.out).mono ?_
 rintro e u2 ⟨rfl,hb2⟩
 have HX2:=Lib.hid (HX1.out.step hb2)
 clear hb2 HD0 HX1 q10 q11 q12 q13 q14 q15
 have q20:=HX2.out.x.cell 0
 have q21:=HX2.out.x.cell 1
 have q22:=HX2.out.x.cell 2
 have q23:=HX2.out.x.cell 3
 have q24:=HX2.out.x.cell 4
 have q25:=HX2.out.x.cell 5
 go_wp2_with fail
 refine (HD1.out _ HX2.out).mono ?_
 rintro e u3 ⟨rfl,hb3⟩
 have HX3:=Lib.hid (HX2.out.step hb3)
 clear hb3 HD1 HX2 q20 q21 q22 q23 q24 q25
 go_wp2_with fail
 refine (alive18_any _).mono ?_
 rintro e u4 ⟨rfl,hb4⟩
 have HX4:=Lib.hid (HX3.out.step hb4)
 clear hb4
 go_wp2_with fail
 go_ret
 exact ⟨rfl,HX4.out.b⟩
structure Lr18 (w:World) (S:Sv14) (A0 A1 A2 A3 A4:Option Addr) (n0 n1 n2 n3 n4 c0 c1 c2 c3 c4:Nat) (sq:Int) (w0:World) (A:Option Addr) (k c:Nat) (x:Nat→Rat) (W:World):Prop where
 b:By16 w S A0 A1 A2 A3 A4 n0 n1 n2 n3 n4 c0 c1 c2 c3 c4 sq W
 z:Below w0.heap.size w0 W
 q:QRow W w0.heap.size (.slice A k c) k (fun j => (qr18 (x j)).1) (fun j => (qr18 (x j)).2)
 h:w.heap.size < w0.heap.size
theorem Lr18.step {w:World} {S:Sv14} {A0 A1 A2 A3 A4:Option Addr} {n0 n1 n2 n3 n4 c0 c1 c2 c3 c4:Nat} {sq:Int} {w0:World} {A:Option Addr} {k c:Nat} {x:Nat→Rat} {W W':World} (h:Lr18 w S A0 A1 A2 A3 A4 n0 n1 n2 n3 n4 c0 c1 c2 c3 c4 sq w0 A k c x W) (hb:Below W.heap.size W W'):Lr18 w S A0 A1 A2 A3 A4 n0 n1 n2 n3 n4 c0 c1 c2 c3 c4 sq w0 A k c x W':=⟨h.b.step hb,h.z.trans (hb.mono h.z.size),h.q.below hb,h.h⟩
theorem Lr18.start {w:World} {S:Sv14} {A0 A1 A2 A3 A4:Option Addr} {n0 n1 n2 n3 n4 c0 c1 c2 c3 c4:Nat} {sq:Int} {w0:World} (x:Nat→Rat) (h:By16 w S A0 A1 A2 A3 A4 n0 n1 n2 n3 n4 c0 c1 c2 c3 c4 sq w0):Lr18 w S A0 A1 A2 A3 A4 n0 n1 n2 n3 n4 c0 c1 c2 c3 c4 sq w0 none 0 0 x w0:=⟨h,Below.refl _ _,QRow.nil _ _ _ _,h.b.x.lt⟩
theorem Lr18.push {w:World} {S:Sv14} {A0 A1 A2 A3 A4:Option Addr} {n0 n1 n2 n3 n4 c0 c1 c2 c3 c4:Nat} {sq:Int} {w0:World} {A:Option Addr} {k c:Nat} {x:Nat→Rat} {W0 W1:World} (h:Lr18 w S A0 A1 A2 A3 A4 n0 n1 n2 n3 n4 c0 c1 c2 c3 c4 sq w0 A k c x W0) (hb:Below W0.heap.size W0 W1) {D1:Option Addr} {i1 t1:Nat} {D2:Option Addr} {i2 t2:Nat} (hn:Qn18 W1 W0.heap.size (x k) D1 i1 t1 D2 i2 t2) (hk:k≤5000) :
  ∃ A' c' W3,(Builtin.append_ #[31,31] 31 #[.slice A k c,.slice (some ⟨W1.heap.size,0,none⟩) 1 1]).run Tryz.prog (W1.alloc (.cells #[.slice D1 i1 t1,.slice D2 i2 t2] 35)) = .ok (.slice A' (k + 1) c') W3∧Lr18 w S A0 A1 A2 A3 A4 n0 n1 n2 n3 n4 c0 c1 c2 c3 c4 sq w0 A' (k + 1) c' x W3:=by
 obtain ⟨cs,q1,q2⟩:=h.q
 have ha:=b1' W1 (.cells #[.slice D1 i1 t1,.slice D2 i2 t2] 35)
 have hk2:=Blk.new W1 35 #[.slice D1 i1 t1,.slice D2 i2 t2]
 have o2:=own_keep2 (own_keep2 q1 hb) ha
 obtain ⟨W2,hW2⟩:∃ W,W1.alloc (.cells #[.slice D1 i1 t1,.slice D2 i2 t2] 35) = W:=⟨_,rfl⟩
 rw [hW2] at ha hk2 o2 ⊢
 obtain ⟨i,hi,hzz⟩:=Option.map_eq_some_iff.1 info_Q
 simp only [Prod.mk.injEq] at hzz
 obtain ⟨hz,hs,hby⟩:=hzz
 have hle:w0.heap.size≤W2.heap.size:=Nat.le_trans h.z.size (Nat.le_trans hb.size ha.size)
 obtain ⟨v',W3,hrun,hown,hg,_,hat⟩:=run_append_own_at (P:=Tryz.prog) W2 w0.heap.size 31 31 35 i _ 2 48 Tryz.underlying31 hi hz hs hby rfl (by omega) _ k cs o2 ⟨W1.heap.size,0,none⟩ 1 1 [.slice D1 i1 t1,.slice D2 i2 t2] rfl (fun j u hj => by
  match j,hj with
  | 0,hj =>
   obtain rfl:_ = u:=by simpa using hj
   exact hk2.cell 0
  | 1,hj =>
   obtain rfl:_ = u:=by simpa using hj
   exact hk2.cell 1
  | j + 2,hj => simp at hj) (by simp [Value.oneCell']) (by unfold maxLen; omega) (by omega) hle
 have hlt:=q1.lt
 have h32:Below w0.heap.size W2 W3:=(Below.refl _ _).grown hg hle (fun r hr => (hlt r hr).1)
 have h30:Below w0.heap.size W0 W3:=((hb.trans (ha.mono hb.size)).mono h.z.size).trans h32
 have hpush:=QRow.push q1 q2 hb hn.1.choose_spec.2 hn.1.choose_spec.1 hn.2.choose_spec.2 hn.2.choose_spec.1 hW2 hg hown hat
 rcases hown.2 with ⟨_,h0⟩ | ⟨g,cap,cur,hv,_⟩
 · omega
 ·
  subst hv
  exact ⟨_,_,W3,hrun,⟨h.b.low (h30.mono (by have:=h.h; omega)),h.z.trans h30,hpush,h.h⟩⟩
structure Ly18 (w:World) (S:Sv14) (A0 A1 A2 A3 A4:Option Addr) (n0 n1 n2 n3 n4 c0 c1 c2 c3 c4:Nat) (sq:Int) (w3:World) (W:World):Prop where
 b:By16 w S A0 A1 A2 A3 A4 n0 n1 n2 n3 n4 c0 c1 c2 c3 c4 sq W
 z:Below w3.heap.size w3 W
theorem Ly18.step {w:World} {S:Sv14} {A0 A1 A2 A3 A4:Option Addr} {n0 n1 n2 n3 n4 c0 c1 c2 c3 c4:Nat} {sq:Int} {w3:World} {W W':World} (h:Ly18 w S A0 A1 A2 A3 A4 n0 n1 n2 n3 n4 c0 c1 c2 c3 c4 sq w3 W) (hb:Below W.heap.size W W'):Ly18 w S A0 A1 A2 A3 A4 n0 n1 n2 n3 n4 c0 c1 c2 c3 c4 sq w3 W':=⟨h.b.step hb,h.z.trans (hb.mono h.z.size)⟩
theorem Wo18.sqh {S:Sv14} {wC wT:Nat→Rat} (h:Wo18 S wC wT) (hf:Fine14 S) (i:Nat):Sq18 (th18 S wT i):=by
 have h96:S.T.length≤96:=hf.2.2.1.2.1.1
 rw [th18_list]
 exact (h.sq hf).2.2 _ _ (by have:=tks15_len S (fnd15 1 (i:Int)) S.T.length; omega)
set_option maxHeartbeats 16000000 in
theorem wtells18_yes (A0 A1 A2 A3 A4:Option Addr) (n0 n1 n2 n3 n4 c0 c1 c2 c3 c4:Nat) (sq:Int) (S:Sv14) (w:World) (hs:SA14 w S A0 A1 A2 A3 A4 n0 n1 n2 n3 n4 c0 c1 c2 c3 c4 sq) (hn:Small14 n0 n1 n2 n3 n4) (hg:light17 S = true) (hf:Fine14 S) :
  Calls Tryz.prog 3 #[(.agg #[.slice A0 n0 c0,.slice A1 n1 c1,.slice A2 n2 c2,.slice A3 n3 c3,.slice A4 n4 c4,.int .i64 sq])] w fun e w' => e = .returned (.bool true)∧Below w.heap.size w w':=by
 obtain ⟨wC,wT,hw⟩:=wo18_ex hf
 have hx0:=Bx14.new hs
 have hxn:=hx0.step (Below.refl _ _).drew
 obtain ⟨W1,hW1⟩:∃ W,w.alloc (.cells #[.slice A0 n0 c0,.slice A1 n1 c1,.slice A2 n2 c2,.slice A3 n3 c3,.slice A4 n4 c4,.int .i64 sq] 28) = W:=⟨_,rfl⟩
 rw [hW1] at hx0 hxn
 have HX0:=Lib.hid hx0
 have p0:=hx0.x.cell 0
 have p1:=hx0.x.cell 1
 have p2:=hx0.x.cell 2
 have p3:=hx0.x.cell 3
 have p4:=hx0.x.cell 4
 have p5:=hx0.x.cell 5
 have HC:=Lib.hid (fun W => small14 A0 A1 A2 A3 A4 n0 n1 n2 n3 n4 c0 c1 c2 c3 c4 sq true W (by simp [hn]))
 have HG:=Lib.hid (fun W (h:Bx14 w S A0 A1 A2 A3 A4 n0 n1 n2 n3 n4 c0 c1 c2 c3 c4 sq W) => (show Calls Tryz.prog 6 #[(.agg #[.slice A0 n0 c0,.slice A1 n1 c1,.slice A2 n2 c2,.slice A3 n3 c3,.slice A4 n4 c4,.int .i64 sq])] W fun e w' => e = .returned (.bool true)∧Below W.heap.size W w' from by have h1:=rlight17 (.agg #[.slice A0 n0 c0,.slice A1 n1 c1,.slice A2 n2 c2,.slice A3 n3 c3,.slice A4 n4 c4,.int .i64 sq]) S W h.st; rwa [hg] at h1))
 have HD:=Lib.hid (fun W (h:Bx14 w S A0 A1 A2 A3 A4 n0 n1 n2 n3 n4 c0 c1 c2 c3 c4 sq W) => rfine14 (.agg #[.slice A0 n0 c0,.slice A1 n1 c1,.slice A2 n2 c2,.slice A3 n3 c3,.slice A4 n4 c4,.int .i64 sq]) S true W h.st (by simp [hf]))
 have HRC:=Lib.hid (fun (k:Nat) W (h:Bx14 w S A0 A1 A2 A3 A4 n0 n1 n2 n3 n4 c0 c1 c2 c3 c4 sq W) => rcoin18 (.agg #[.slice A0 n0 c0,.slice A1 n1 c1,.slice A2 n2 c2,.slice A3 n3 c3,.slice A4 n4 c4,.int .i64 sq]) S wC wT hf hw k W h.st)
 have HRT:=Lib.hid (fun (k:Nat) hk W (h:Bx14 w S A0 A1 A2 A3 A4 n0 n1 n2 n3 n4 c0 c1 c2 c3 c4 sq W) => rticket18 (.agg #[.slice A0 n0 c0,.slice A1 n1 c1,.slice A2 n2 c2,.slice A3 n3 c3,.slice A4 n4 c4,.int .i64 sq]) S wC wT hf hw k hk W h.st)
 have HRH:=Lib.hid (fun (k:Nat) W (h:Bx14 w S A0 A1 A2 A3 A4 n0 n1 n2 n3 n4 c0 c1 c2 c3 c4 sq W) => rthread18 (.agg #[.slice A0 n0 c0,.slice A1 n1 c1,.slice A2 n2 c2,.slice A3 n3 c3,.slice A4 n4 c4,.int .i64 sq]) S wC wT hf hw k W h.st)
 have HTW:=Lib.hid (fun (k:Nat) hk W (h:Bx14 w S A0 A1 A2 A3 A4 n0 n1 n2 n3 n4 c0 c1 c2 c3 c4 sq W) => ticketw18 (.agg #[.slice A0 n0 c0,.slice A1 n1 c1,.slice A2 n2 c2,.slice A3 n3 c3,.slice A4 n4 c4,.int .i64 sq]) S wC wT k W h.st hf hw hk)
 have HCO:=Lib.hid (fun W (h:Bx14 w S A0 A1 A2 A3 A4 n0 n1 n2 n3 n4 c0 c1 c2 c3 c4 sq W) => coins18 (.agg #[.slice A0 n0 c0,.slice A1 n1 c1,.slice A2 n2 c2,.slice A3 n3 c3,.slice A4 n4 c4,.int .i64 sq]) S wC wT W h.st hf hw)
 have HTI:=Lib.hid (fun W (h:Bx14 w S A0 A1 A2 A3 A4 n0 n1 n2 n3 n4 c0 c1 c2 c3 c4 sq W) => tickets18w (.agg #[.slice A0 n0 c0,.slice A1 n1 c1,.slice A2 n2 c2,.slice A3 n3 c3,.slice A4 n4 c4,.int .i64 sq]) S wC wT W h.st hf hw)
 have HTH:=Lib.hid (fun W (h:Bx14 w S A0 A1 A2 A3 A4 n0 n1 n2 n3 n4 c0 c1 c2 c3 c4 sq W) => threads18 (.agg #[.slice A0 n0 c0,.slice A1 n1 c1,.slice A2 n2 c2,.slice A3 n3 c3,.slice A4 n4 c4,.int .i64 sq]) S wC wT W h.st hf hw)
 have HSC:=Lib.hid (hw.sq hf).1
 have HST:=Lib.hid (hw.sq hf).2.1
 have HSH:=Lib.hid (hw.sqh hf)
 have HL0:=Lib.hid hs.l0
 have HL1:=Lib.hid hs.l1
 have HL2:=Lib.hid hs.l2
 have HSS:=Lib.hid hs
 have hnb0:=hs.m0
 have hnb1:=hs.m1
 have hnb2:=hs.m2
 clear hs hx0 hxn hn hf hg hw
 go_enter Tryz.func3,Tryz.ntmps3
 go_wp2_with fail
 refine (HC.out _).mono ?_
 rintro e u1 ⟨rfl,hb1⟩
 have HX1:=Lib.hid (HX0.out.step hb1)
 have q0:=HX1.out.x.cell 0
 have q1:=HX1.out.x.cell 1
 have q2:=HX1.out.x.cell 2
 have q3:=HX1.out.x.cell 3
 have q4:=HX1.out.x.cell 4
 have q5:=HX1.out.x.cell 5
 clear hb1 HC hW1 HX0 p0 p1 p2 p3 p4 p5
 go_wp2_with fail
 refine (HG.out _ HX1.out).mono ?_
 rintro e u2 ⟨rfl,hb2⟩
 have HX2:=Lib.hid (HX1.out.step hb2)
 have r0:=HX2.out.x.cell 0
 have r1:=HX2.out.x.cell 1
 have r2:=HX2.out.x.cell 2
 have r3:=HX2.out.x.cell 3
 have r4:=HX2.out.x.cell 4
 have r5:=HX2.out.x.cell 5
 clear hb2 HG HX1 q0 q1 q2 q3 q4 q5
 go_wp2_with fail
 refine (HD.out _ HX2.out).mono ?_
 rintro e u3 ⟨rfl,hb3⟩
 have HW0:Hid (Lr18 w S A0 A1 A2 A3 A4 n0 n1 n2 n3 n4 c0 c1 c2 c3 c4 sq u3 none 0 0 wC u3):=Lib.hid (Lr18.start wC ⟨HX2.out.step hb3,HSS.out⟩)
 clear hb3 HD HX2 r0 r1 r2 r3 r4 r5 HSS
 go_wp2_with fail
 go_loopw [3,6] (fun v i wr => ∃ (k cc:Nat) (A:Option Addr),v = .slice A k cc∧i = .int .i64 (k:Int)∧k≤n0∧Hid (Lr18 w S A0 A1 A2 A3 A4 n0 n1 n2 n3 n4 c0 c1 c2 c3 c4 sq u3 A k cc wC wr)) (fun _ i _ => n0 - (intOf i).toNat)
 case atStart => exact ⟨0,0,none,rfl,rfl,by omega,HW0⟩
 case round =>
  clear HW0
  obtain ⟨k,cc,AC,rfl,rfl,hk,HW⟩:=hrel
  by_cases hkn:k < n0
  ·
   have i0:(0:Int)≤(k:Int):=by omega
   have i1:(k:Int) < (n0:Int):=by omega
   have HKN:=Lib.hid hkn
   have HRK:=Lib.hid (HRC.out k)
   have y0:=HW.out.b.b.x.cell 0
   have y1:=HW.out.b.b.x.cell 1
   have y2:=HW.out.b.b.x.cell 2
   have y3:=HW.out.b.b.x.cell 3
   have y4:=HW.out.b.b.x.cell 4
   have y5:=HW.out.b.b.x.cell 5
   go_wp2_with fail
   refine (HRK.out _ HW.out.b.b).mono ?_
   rintro e w4 ⟨D1,j1,t1,D2,j2,t2,rfl,hq1,hq2,hb4⟩
   obtain ⟨Az,cz,W3,hrun,har⟩:=HW.out.push hb4 ⟨hq1,hq2⟩ (by omega)
   have HRUN:=Lib.hid hrun
   have HAR:=Lib.hid har
   clear hq1 hq2 hb4 hrun har HRK HW y0 y1 y2 y3 y4 y5
   go_wp2_with (at_builtin; go_loud (refine wpList_append_14 _ rfl (.tmp 30) (.tmp 34) 31 rfl _ _ _ _ rfl rfl HRUN.out ?_))
   go_roundw
   case rel => exact ⟨k + 1,cz,Az,rfl,by go_num,by omega,HAR⟩
   case measure => simp [intOf]; omega
  ·
   obtain rfl:n0 = k:=by omega
   have i1:¬ (n0:Int) < (n0:Int):=by omega
   obtain ⟨wA,hwA⟩:∃ W,W = wr:=⟨_,rfl⟩
   subst hwA
   have HQC:=Lib.hid HW.out.q
   have HW1:Hid (Lr18 w S A0 A1 A2 A3 A4 n0 n1 n2 n3 n4 c0 c1 c2 c3 c4 sq wA none 0 0 wT wA):=Lib.hid (Lr18.start wT HW.out.b)
   have y0:=HW.out.b.b.x.cell 0
   clear HW HRC hk
   go_wp2_with fail
   clear y0
   go_loopw [4,7] (fun v i wr => ∃ (k cc:Nat) (A:Option Addr),v = .slice A k cc∧i = .int .i64 (k:Int)∧k≤n1∧Hid (Lr18 w S A0 A1 A2 A3 A4 n0 n1 n2 n3 n4 c0 c1 c2 c3 c4 sq wA A k cc wT wr)) (fun _ i _ => n1 - (intOf i).toNat)
   case atStart => exact ⟨0,0,none,rfl,rfl,by omega,HW1⟩
   case round =>
    clear HW1
    obtain ⟨k,cc,AT,rfl,rfl,hk,HW⟩:=hrel
    by_cases hkn:k < n1
    ·
     have i0:(0:Int)≤(k:Int):=by omega
     have i1:(k:Int) < (n1:Int):=by omega
     have HKN:=Lib.hid hkn
     have HRK:=Lib.hid (HRT.out k (by have:=HL1.out; omega))
     have y0:=HW.out.b.b.x.cell 0
     have y1:=HW.out.b.b.x.cell 1
     have y2:=HW.out.b.b.x.cell 2
     have y3:=HW.out.b.b.x.cell 3
     have y4:=HW.out.b.b.x.cell 4
     have y5:=HW.out.b.b.x.cell 5
     go_wp2_with fail
     refine (HRK.out _ HW.out.b.b).mono ?_
     rintro e w4 ⟨D1,j1,t1,D2,j2,t2,rfl,hq1,hq2,hb4⟩
     obtain ⟨Az,cz,W3,hrun,har⟩:=HW.out.push hb4 ⟨hq1,hq2⟩ (by omega)
     have HRUN:=Lib.hid hrun
     have HAR:=Lib.hid har
     clear hq1 hq2 hb4 hrun har HRK HW y0 y1 y2 y3 y4 y5
     go_upto_region 12 with (at_builtin; go_loud (refine wpList_append_14 _ rfl (.tmp 43) (.tmp 47) 31 rfl _ _ _ _ rfl rfl HRUN.out ?_))
     obtain ⟨gz,oz,F1,l1,o1,F2,l2,o2,hA,f1,f2,⟨L1,u1⟩,⟨L2,u2⟩⟩:=HAR.out.q.qin k (by omega)
     subst hA
     have HF1:=Lib.hid f1
     have HF2:=Lib.hid f2
     have HTK:=Lib.hid (HTW.out k (by have:=HL1.out; omega))
     have HSX:Hid (∀ {W W':World} {A1 A2:Option Addr} {n1 c1 n2 c2:Nat},Below W3.heap.size W3 W→Nv W 0 (.slice A1 n1 c1) (qr18 (wT k)).1→Nv W 0 (.slice A2 n2 c2) (qr18 (wT k)).2→Calls Tryz.prog 11 #[.agg #[.slice A1 n1 c1,.slice A2 n2 c2],.agg #[.slice F1 l1 o1,.slice F2 l2 o2]] W fun e w' => e = .returned (.bool true)∧Below W.heap.size W w'):=Lib.hid (fun hb h1 h2 => same4_r (j:=36) _ h1 h2 (u1.below hb) (u2.below hb) (HST.out k).2.1 (HST.out k).2.2 (by omega))
     have HY:Hid (Ly18 w S A0 A1 A2 A3 A4 n0 n1 n2 n3 n4 c0 c1 c2 c3 c4 sq W3 W3):=Lib.hid ⟨HAR.out.b,Below.refl _ _⟩
     have j1:(k:Int) < ((k + 1:Nat):Int):=by omega
     have j2:(k:Int) < (k:Int) + 1:=by omega
     clear f1 f2 u1 u2
     have HXN:Hid (Ly18 w S A0 A1 A2 A3 A4 n0 n1 n2 n3 n4 c0 c1 c2 c3 c4 sq W3 W3.drew):=Lib.hid (HY.out.step (Below.refl _ _).drew)
     clear HY
     obtain ⟨wn,hwn⟩:∃ W,W3.drew = W:=⟨_,rfl⟩
     rw [hwn] at HXN
     go_wp2_with fail
     refine wp_region_held_drew (S:=Ly18 w S A0 A1 A2 A3 A4 n0 n1 n2 n3 n4 c0 c1 c2 c3 c4 sq W3) (by kernel_rfl) (by rw [hwn]; exact HXN.out) (fun hHeld => ?_)
     rw [hwn] at hHeld ⊢
     clear hwn
     have HBS:=HXN
     refine tk 0 (v:=?_) (fun W hS => ?_) ?_
     rotate_left
     ·
      try dsimp only at hS
      have z0:=hS.b.b.x.cell 0
      have z1:=hS.b.b.x.cell 1
      have z2:=hS.b.b.x.cell 2
      have z3:=hS.b.b.x.cell 3
      have z4:=hS.b.b.x.cell 4
      have z5:=hS.b.b.x.cell 5
      go_simp
      try with_reducible rfl
     try simp only [Act.put,pt1,pt2,pt3]
     refine tk 1 (v:=?_) (fun W hS => ?_) ?_
     rotate_left
     · (go_simp; try with_reducible rfl)
     try simp only [Act.put,pt1,pt2,pt3]
     refine tk 3 (v:=?_) (fun W hS => ?_) ?_
     rotate_left
     · (go_simp; try with_reducible rfl)
     try simp only [Act.put,pt1,pt2,pt3]
     refine tk 4 (v:=?_) (fun W hS => ?_) ?_
     rotate_left
     · (go_simp; try with_reducible rfl)
     try simp only [Act.put,pt1,pt2,pt3]
     refine tk 5 (v:=?_) (fun W hS => ?_) ?_
     rotate_left
     · (go_simp; try with_reducible rfl)
     try simp only [Act.put,pt1,pt2,pt3]
     refine tk 6 (v:=?_) (fun W hS => ?_) ?_
     rotate_left
     ·
      try dsimp only at hS
      have z0:=(hS.z.cell (World.block_lt_of_cell? _ _ HF1.out)).trans HF1.out
      have z1:=(hS.z.cell (World.block_lt_of_cell? _ _ HF2.out)).trans HF2.out
      go_simp
      try with_reducible rfl
     try simp only [Act.put,pt1,pt2,pt3]
     refine rdy 2 (fun K hK => ?_)
     have HBS0:=HBS
     go_simp
     refine (HTK.out _ HBS0.out.b.b).mono ?_
     rintro e wn ⟨E1,m1,s1,E2,m2,s2,rfl,hx,hy,hb⟩
     have HBS:=Lib.hid (HBS0.out.step hb)
     have HX:=Lib.hid hx
     have HYY:=Lib.hid hy
     clear hb HBS0 hx hy
     refine hK.out _ _ HBS.out (fun hHeld => ?_)
     clear hK K
     try simp only [Act.put,pt1,pt2,pt3]
     refine rdy 7 (fun K hK => ?_)
     have HBS0:=HBS
     go_simp
     refine (HSX.out (W':=wn) HBS0.out.z HX.out HYY.out).mono ?_
     rintro e wn ⟨rfl,hb⟩
     have HBS:=Lib.hid (HBS0.out.step hb)
     clear hb HBS0 HX HYY
     refine hK.out _ _ HBS.out (fun hHeld => ?_)
     clear hK K
     try simp only [Act.put,pt1,pt2,pt3]
     refine tk 8 (v:=?_) (fun W hS => ?_) ?_
     rotate_left
     · (go_simp; try with_reducible rfl)
     try simp only [Act.put,pt1,pt2,pt3]
     refine wpAnyH_done (by kernel_rfl) ?_ _
     clear hHeld
     have HN:=Lib.hid (HAR.out.step HBS.out.z)
     clear HXN HSX HTK HBS HAR HF1 HF2
     go_wp2_with fail
     go_roundw
     case rel => exact ⟨k + 1,cz,_,rfl,by go_num,by omega,HN⟩
     case measure => simp [intOf]; omega
    ·
     obtain rfl:n1 = k:=by omega
     have i1:¬ (n1:Int) < (n1:Int):=by omega
     obtain ⟨wB,hwB⟩:∃ W,W = wr:=⟨_,rfl⟩
     subst hwB
     have HQK:=Lib.hid HW.out.q
     have HQC:=Lib.hid (HQC.out.below HW.out.z)
     have HW2:Hid (Lr18 w S A0 A1 A2 A3 A4 n0 n1 n2 n3 n4 c0 c1 c2 c3 c4 sq wB none 0 0 (th18 S wT) wB):=Lib.hid (Lr18.start (th18 S wT) HW.out.b)
     have y1:=HW.out.b.b.x.cell 1
     clear HW HRT HTW hk
     go_wp2_with fail
     clear y1
     go_loopw [5,8] (fun v i wr => ∃ (k cc:Nat) (A:Option Addr),v = .slice A k cc∧i = .int .i64 (k:Int)∧k≤n2∧Hid (Lr18 w S A0 A1 A2 A3 A4 n0 n1 n2 n3 n4 c0 c1 c2 c3 c4 sq wB A k cc (th18 S wT) wr)) (fun _ i _ => n2 - (intOf i).toNat)
     case atStart => exact ⟨0,0,none,rfl,rfl,by omega,HW2⟩
     case round =>
      clear HW2
      obtain ⟨k,cc,AH,rfl,rfl,hk,HW⟩:=hrel
      by_cases hkn:k < n2
      ·
       have i0:(0:Int)≤(k:Int):=by omega
       have i1:(k:Int) < (n2:Int):=by omega
       have HKN:=Lib.hid hkn
       have HRK:=Lib.hid (HRH.out k)
       have y0:=HW.out.b.b.x.cell 0
       have y1:=HW.out.b.b.x.cell 1
       have y2:=HW.out.b.b.x.cell 2
       have y3:=HW.out.b.b.x.cell 3
       have y4:=HW.out.b.b.x.cell 4
       have y5:=HW.out.b.b.x.cell 5
       go_wp2_with fail
       refine (HRK.out _ HW.out.b.b).mono ?_
       rintro e w4 ⟨D1,j1,t1,D2,j2,t2,rfl,hq1,hq2,hb4⟩
       obtain ⟨Az,cz,W3,hrun,har⟩:=HW.out.push hb4 ⟨hq1,hq2⟩ (by omega)
       have HRUN:=Lib.hid hrun
       have HAR:=Lib.hid har
       clear hq1 hq2 hb4 hrun har HRK HW y0 y1 y2 y3 y4 y5
       go_wp2_with (at_builtin; go_loud (refine wpList_append_14 _ rfl (.tmp 65) (.tmp 69) 31 rfl _ _ _ _ rfl rfl HRUN.out ?_))
       go_roundw
       case rel => exact ⟨k + 1,cz,Az,rfl,by go_num,by omega,HAR⟩
       case measure => simp [intOf]; omega
      ·
       obtain rfl:n2 = k:=by omega
       have i1:¬ (n2:Int) < (n2:Int):=by omega
       have HQH:=Lib.hid HW.out.q.qin
       have HQK:=Lib.hid (HQK.out.below HW.out.z).qin
       have HQC:=Lib.hid (HQC.out.below HW.out.z).qin
       have HB:=Lib.hid HW.out.b
       have y0:=HB.out.b.x.cell 0
       have y1:=HB.out.b.x.cell 1
       have y2:=HB.out.b.x.cell 2
       have y3:=HB.out.b.x.cell 3
       have y4:=HB.out.b.x.cell 4
       have y5:=HB.out.b.x.cell 5
       clear HW HRH hk
       go_wp2_with fail
       refine (HCO.out _ HB.out.b).mono ?_
       rintro e v0 ⟨g0,rfl,hg,hr,hb⟩
       rw [HL0.out] at hr ⊢
       have HB:=Lib.hid (HB.out.step hb)
       have HQC:=Lib.hid (HQC.out.below hb)
       have HQK:=Lib.hid (HQK.out.below hb)
       have HQH:=Lib.hid (HQH.out.below hb)
       have HSM:=Lib.hid (fun c => rsame18 g0 _ c _ wC v0 hr HQC.out (fun k _ => HSC.out k) (by omega))
       clear hg hr hb HCO y0 y1 y2 y3 y4 y5
       go_wp2_with fail
       refine (HSM.out _).mono ?_
       rintro e x0 ⟨rfl,hb⟩
       have HB:=Lib.hid (HB.out.step hb)
       have HQK:=Lib.hid (HQK.out.below hb)
       have HQH:=Lib.hid (HQH.out.below hb)
       have y0:=HB.out.b.x.cell 0
       have y1:=HB.out.b.x.cell 1
       have y2:=HB.out.b.x.cell 2
       have y3:=HB.out.b.x.cell 3
       have y4:=HB.out.b.x.cell 4
       have y5:=HB.out.b.x.cell 5
       clear hb HSM HQC
       go_wp2_with fail
       refine (HTI.out _ HB.out.b).mono ?_
       rintro e v1 ⟨g1,rfl,hg,hr,hb⟩
       rw [HL1.out] at hr ⊢
       have HB:=Lib.hid (HB.out.step hb)
       have HQK:=Lib.hid (HQK.out.below hb)
       have HQH:=Lib.hid (HQH.out.below hb)
       have HSM:=Lib.hid (fun c => rsame18 g1 _ c _ wT v1 hr HQK.out (fun k _ => HST.out k) (by omega))
       clear hg hr hb HTI y0 y1 y2 y3 y4 y5
       go_wp2_with fail
       refine (HSM.out _).mono ?_
       rintro e x1 ⟨rfl,hb⟩
       have HB:=Lib.hid (HB.out.step hb)
       have HQH:=Lib.hid (HQH.out.below hb)
       have y0:=HB.out.b.x.cell 0
       have y1:=HB.out.b.x.cell 1
       have y2:=HB.out.b.x.cell 2
       have y3:=HB.out.b.x.cell 3
       have y4:=HB.out.b.x.cell 4
       have y5:=HB.out.b.x.cell 5
       clear hb HSM HQK
       go_wp2_with fail
       refine (HTH.out _ HB.out.b).mono ?_
       rintro e v2 ⟨g2,rfl,hg,hr,hb⟩
       rw [HL2.out] at hr ⊢
       have HB:=Lib.hid (HB.out.step hb)
       have HQH:=Lib.hid (HQH.out.below hb)
       have HSM:=Lib.hid (fun c => rsame18 g2 _ c _ (th18 S wT) v2 hr HQH.out (fun k _ => HSH.out k) (by omega))
       clear hg hr hb HTH y0 y1 y2 y3 y4 y5
       go_wp2_with fail
       refine (HSM.out _).mono ?_
       rintro e x2 ⟨rfl,hb⟩
       have HB:=Lib.hid (HB.out.step hb)
       have y0:=HB.out.b.x.cell 0
       have y1:=HB.out.b.x.cell 1
       have y2:=HB.out.b.x.cell 2
       have y3:=HB.out.b.x.cell 3
       have y4:=HB.out.b.x.cell 4
       have y5:=HB.out.b.x.cell 5
       clear hb HSM HQH
       go_wp2_with fail
       refine (alive18_any _).mono ?_
       rintro e x3 ⟨rfl,hb⟩
       have HB:=Lib.hid (HB.out.step hb)
       clear hb y0 y1 y2 y3 y4 y5
       go_wp2_with fail
       go_ret
       exact ⟨rfl,HB.out.b.b⟩
theorem worthTells_all (W:World) (A00 A01 A02 A03 A04:Option Addr) (n00 n01 n02 n03 n04 c00 c01 c02 c03 c04:Nat) (q0:Int) (S0:Sv14) (h0:Small14 n00 n01 n02 n03 n04→SA14 W S0 A00 A01 A02 A03 A04 n00 n01 n02 n03 n04 c00 c01 c02 c03 c04 q0) :
  Calls Tryz.prog 3 #[.agg #[.slice A00 n00 c00,.slice A01 n01 c01,.slice A02 n02 c02,.slice A03 n03 c03,.slice A04 n04 c04,.int .i64 q0]] W fun e w' => e = .returned (.bool true)∧Below W.heap.size W w':=by
 by_cases hn:Small14 n00 n01 n02 n03 n04
 case neg => exact wtells18_no1 A00 A01 A02 A03 A04 n00 n01 n02 n03 n04 c00 c01 c02 c03 c04 q0 S0 W hn
 cases hg:light17 S0 with
 | false => exact wtells18_no2 A00 A01 A02 A03 A04 n00 n01 n02 n03 n04 c00 c01 c02 c03 c04 q0 S0 W (h0 hn) hn hg
 | true =>
  by_cases hf:Fine14 S0
  · exact wtells18_yes A00 A01 A02 A03 A04 n00 n01 n02 n03 n04 c00 c01 c02 c03 c04 q0 S0 W (h0 hn) hn hg hf
  · exact wtells18_no3 A00 A01 A02 A03 A04 n00 n01 n02 n03 n04 c00 c01 c02 c03 c04 q0 S0 W (h0 hn) hn hg hf
end Go.Proofs.YtgopgbfgbddggaaGreat
namespace Go.Proofs.YtgopgbfgbddggaaGreat
open Go.ChangeShapes Go.WideShapes Go.ChangeAt Go.RowKit
set_option maxRecDepth 100000
theorem open_rows14 {α:Type} [Inhabited α] {cl:α→List Value} {k:Nat} (hk:∀ x,(cl x).length = k) (hk0:0 < k) {H:Type} {enc:TypeId × Value→H} {W:World} {t e:TypeId} (ht:Tryz.prog.underlying t = some (.slice e)) (he:Tryz.prog.cellsOf e = k)
  (hx:∀ f cs y,cs.length = k→DataW.trod enc Tryz.prog W 0 (fun _ => true) true f e cs = some y→∃ x,cs = cl x) {v:Value} {f:Nat} {y:DataW H × List MemPlace} (h:DataW.trod enc Tryz.prog W 0 (fun _ => true) true f t [v] = some y) :
  ∃ (A:Option Addr) (n c:Nat) (xs:List α),v = .slice A n c∧xs.length = n∧Lq cl W W.heap.size A xs∧n≤c:=by
 rcases Go.Deep.open_slice ht h with ⟨hcs,hy⟩ | ⟨a,len,cap,m,n,D,Pl,hcs,hb,hl,hm,hmm,hy,hel⟩
 ·
  simp at hcs
  subst hcs
  exact ⟨none,0,0,[],rfl,rfl,Lq.nil _ _ _ _,Nat.le_refl _⟩
 ·
  simp at hcs
  subst hcs
  simp only [if_true] at hmm
  have each:∀ i,i < len→∃ x:α,∀ j v,(cl x)[j]? = some v→W.cell? (a.add (i * k + j)) = some v:=by
   intro i hi
   obtain ⟨cs',h1,h2⟩:=hel i (by omega)
   rw [he] at h1
   obtain ⟨_,hlen,hcell⟩:=World.cells?_some h1
   obtain ⟨x,rfl⟩:=hx _ _ _ hlen h2
   refine ⟨x,fun j v hj => ?_⟩
   have hjk:j < k:=by
    have:=(List.getElem?_eq_some_iff.1 hj).1
    rwa [hk] at this
   have:=hcell j hjk
   rw [Go.Deep.add_add] at this
   rw [this]
   exact hj
  obtain ⟨q,hq⟩:=Go.Deep.choose_lt each
  have hll:((List.range len).map q).length = len:=by simp
  refine ⟨some a,len,cap,(List.range len).map q,rfl,hll,fun hne => ?_,hl⟩
  have hpos:0 < len:=by
   rcases Nat.eq_zero_or_pos len with h0 | h0
   ·
    subst h0
    exact absurd rfl hne
   · exact h0
  have hfirst:∃ v,W.cell? a = some v:=by
   have hc0:0 < (cl (q 0)).length:=by rw [hk]; exact hk0
   refine ⟨(cl (q 0))[0],?_⟩
   have:=hq 0 hpos 0 _ (List.getElem?_eq_getElem hc0)
   simpa [Addr.add] using this
  obtain ⟨v0,hv0⟩:=hfirst
  obtain ⟨b,off,spot⟩:=a
  have hspot:spot = none:=by simpa using World.cell?_spot hv0
  subst hspot
  refine ⟨b,off,rfl,World.block_lt_of_cell? W _ hv0,fun j v hj => ?_⟩
  have hjl:j < len * k:=by
   have:=(List.getElem?_eq_some_iff.1 hj).1
   rw [fl14_len hk,hll] at this
   exact this
  have hd:j / k < len:=Nat.div_lt_of_lt_mul (by rw [Nat.mul_comm]; exact hjl)
  have hm':j % k < k:=Nat.mod_lt _ hk0
  have hj2:j / k * k + j % k = j:=by rw [Nat.mul_comm]; exact Nat.div_add_mod j k
  rw [← hj2,fl14_get hk (by rw [hll]; exact hd) hm'] at hj
  have hg:gt14 ((List.range len).map q) (j / k) = q (j / k):=by simp [gt14,hd]
  rw [hg] at hj
  have:=hq (j / k) hd (j % k) v hj
  rw [hj2] at this
  simpa only [Go.WideShapes.add_plain] using this
theorem trod_fld14 {P:Program} {H:Type} {enc:TypeId × Value→H} {w:World} {base:Nat} {spare:Nat→Bool} {held:Bool} {t:TypeId} {fs:Array Field} {fuel:Nat} {cs:List Value} {x:DataW H × List MemPlace} (ht:P.underlying t = some (.struct fs)) (h:DataW.trod enc P w base spare held fuel t cs = some x) :
  ∃ n,∀ (i:Nat) (f:Field),fs[i]? = some f→∃ y,DataW.trod enc P w base spare held n f.type ((cs.drop f.offset).take (P.cellsOf f.type)) = some y:=by
 obtain ⟨xs,n,_,rfl,hl,hlen,hf⟩:=DataW.trod_struct ht h
 refine ⟨n,fun i f hi => ?_⟩
 have hlt:i < fs.size:=(Array.getElem?_eq_some_iff.1 hi).1
 have:=hf i f hi
 rw [List.getElem?_eq_getElem (by omega)] at this
 exact ⟨_,this⟩
theorem cells14_bool:Tryz.prog.cellsOf 4 = 1:=by kernel_rfl
theorem cells14_int:Tryz.prog.cellsOf 3 = 1:=by kernel_rfl
theorem elem14_T {H:Type} {enc:TypeId × Value→H} {W:World} (f:Nat) (cs:List Value) (y:DataW H × List MemPlace) (hl:cs.length = 6) (h:DataW.trod enc Tryz.prog W 0 (fun _ => true) true f 53 cs = some y):∃ x,cs = clT x:=by
 obtain ⟨n,hf⟩:=trod_fld14 Tryz.underlying53 h
 match cs,hl with
 | [z0,z1,z2,z3,z4,z5],_ =>
  obtain ⟨y0,g0⟩:=hf 0 _ rfl
  have g0:DataW.trod enc Tryz.prog W 0 (fun _ => true) true n 4 (([z0,z1,z2,z3,z4,z5].drop 0).take (Tryz.prog.cellsOf 4)) = some y0:=g0
  rw [cells14_bool] at g0
  obtain ⟨x0,e0,_⟩:=DataW.trod_bool Tryz.underlying4 g0
  obtain ⟨y1,g1⟩:=hf 1 _ rfl
  have g1:DataW.trod enc Tryz.prog W 0 (fun _ => true) true n 3 (([z0,z1,z2,z3,z4,z5].drop 1).take (Tryz.prog.cellsOf 3)) = some y1:=g1
  rw [cells14_int] at g1
  obtain ⟨x1,e1,_,_⟩:=DataW.trod_int Tryz.underlying3 g1
  obtain ⟨y2,g2⟩:=hf 2 _ rfl
  have g2:DataW.trod enc Tryz.prog W 0 (fun _ => true) true n 3 (([z0,z1,z2,z3,z4,z5].drop 2).take (Tryz.prog.cellsOf 3)) = some y2:=g2
  rw [cells14_int] at g2
  obtain ⟨x2,e2,_,_⟩:=DataW.trod_int Tryz.underlying3 g2
  obtain ⟨y3,g3⟩:=hf 3 _ rfl
  have g3:DataW.trod enc Tryz.prog W 0 (fun _ => true) true n 3 (([z0,z1,z2,z3,z4,z5].drop 3).take (Tryz.prog.cellsOf 3)) = some y3:=g3
  rw [cells14_int] at g3
  obtain ⟨x3,e3,_,_⟩:=DataW.trod_int Tryz.underlying3 g3
  obtain ⟨y4,g4⟩:=hf 4 _ rfl
  have g4:DataW.trod enc Tryz.prog W 0 (fun _ => true) true n 3 (([z0,z1,z2,z3,z4,z5].drop 4).take (Tryz.prog.cellsOf 3)) = some y4:=g4
  rw [cells14_int] at g4
  obtain ⟨x4,e4,_,_⟩:=DataW.trod_int Tryz.underlying3 g4
  obtain ⟨y5,g5⟩:=hf 5 _ rfl
  have g5:DataW.trod enc Tryz.prog W 0 (fun _ => true) true n 4 (([z0,z1,z2,z3,z4,z5].drop 5).take (Tryz.prog.cellsOf 4)) = some y5:=g5
  rw [cells14_bool] at g5
  obtain ⟨x5,e5,_⟩:=DataW.trod_bool Tryz.underlying4 g5
  simp at e0 e1 e2 e3 e4 e5
  subst e0 e1 e2 e3 e4 e5
  exact ⟨⟨x0,x1,x2,x3,x4,x5⟩,rfl⟩
theorem elem14_H {H:Type} {enc:TypeId × Value→H} {W:World} (f:Nat) (cs:List Value) (y:DataW H × List MemPlace) (hl:cs.length = 5) (h:DataW.trod enc Tryz.prog W 0 (fun _ => true) true f 58 cs = some y):∃ x,cs = clH x:=by
 obtain ⟨n,hf⟩:=trod_fld14 Tryz.underlying58 h
 match cs,hl with
 | [z0,z1,z2,z3,z4],_ =>
  obtain ⟨y0,g0⟩:=hf 0 _ rfl
  have g0:DataW.trod enc Tryz.prog W 0 (fun _ => true) true n 3 (([z0,z1,z2,z3,z4].drop 0).take (Tryz.prog.cellsOf 3)) = some y0:=g0
  rw [cells14_int] at g0
  obtain ⟨x0,e0,_,_⟩:=DataW.trod_int Tryz.underlying3 g0
  obtain ⟨y1,g1⟩:=hf 1 _ rfl
  have g1:DataW.trod enc Tryz.prog W 0 (fun _ => true) true n 3 (([z0,z1,z2,z3,z4].drop 1).take (Tryz.prog.cellsOf 3)) = some y1:=g1
  rw [cells14_int] at g1
  obtain ⟨x1,e1,_,_⟩:=DataW.trod_int Tryz.underlying3 g1
  obtain ⟨y2,g2⟩:=hf 2 _ rfl
  have g2:DataW.trod enc Tryz.prog W 0 (fun _ => true) true n 3 (([z0,z1,z2,z3,z4].drop 2).take (Tryz.prog.cellsOf 3)) = some y2:=g2
  rw [cells14_int] at g2
  obtain ⟨x2,e2,_,_⟩:=DataW.trod_int Tryz.underlying3 g2
  obtain ⟨y3,g3⟩:=hf 3 _ rfl
  have g3:DataW.trod enc Tryz.prog W 0 (fun _ => true) true n 3 (([z0,z1,z2,z3,z4].drop 3).take (Tryz.prog.cellsOf 3)) = some y3:=g3
  rw [cells14_int] at g3
  obtain ⟨x3,e3,_,_⟩:=DataW.trod_int Tryz.underlying3 g3
  obtain ⟨y4,g4⟩:=hf 4 _ rfl
  have g4:DataW.trod enc Tryz.prog W 0 (fun _ => true) true n 3 (([z0,z1,z2,z3,z4].drop 4).take (Tryz.prog.cellsOf 3)) = some y4:=g4
  rw [cells14_int] at g4
  obtain ⟨x4,e4,_,_⟩:=DataW.trod_int Tryz.underlying3 g4
  simp at e0 e1 e2 e3 e4
  subst e0 e1 e2 e3 e4
  exact ⟨⟨x0,x1,x2,x3,x4⟩,rfl⟩
theorem elem14_L {H:Type} {enc:TypeId × Value→H} {W:World} (f:Nat) (cs:List Value) (y:DataW H × List MemPlace) (hl:cs.length = 2) (h:DataW.trod enc Tryz.prog W 0 (fun _ => true) true f 78 cs = some y):∃ x,cs = clL x:=by
 obtain ⟨n,hf⟩:=trod_fld14 Tryz.underlying78 h
 match cs,hl with
 | [z0,z1],_ =>
  obtain ⟨y0,g0⟩:=hf 0 _ rfl
  have g0:DataW.trod enc Tryz.prog W 0 (fun _ => true) true n 4 (([z0,z1].drop 0).take (Tryz.prog.cellsOf 4)) = some y0:=g0
  rw [cells14_bool] at g0
  obtain ⟨x0,e0,_⟩:=DataW.trod_bool Tryz.underlying4 g0
  obtain ⟨y1,g1⟩:=hf 1 _ rfl
  have g1:DataW.trod enc Tryz.prog W 0 (fun _ => true) true n 3 (([z0,z1].drop 1).take (Tryz.prog.cellsOf 3)) = some y1:=g1
  rw [cells14_int] at g1
  obtain ⟨x1,e1,_,_⟩:=DataW.trod_int Tryz.underlying3 g1
  simp at e0 e1
  subst e0 e1
  exact ⟨⟨x0,x1⟩,rfl⟩
theorem elem14_C {H:Type} {enc:TypeId × Value→H} {W:World} (f:Nat) (cs:List Value) (y:DataW H × List MemPlace) (hl:cs.length = 1) (h:DataW.trod enc Tryz.prog W 0 (fun _ => true) true f 4 cs = some y):∃ x,cs = clC x:=by
 obtain ⟨x,rfl,_⟩:=DataW.trod_bool Tryz.underlying4 h
 exact ⟨x,rfl⟩
theorem elem14_I {H:Type} {enc:TypeId × Value→H} {W:World} (f:Nat) (cs:List Value) (y:DataW H × List MemPlace) (hl:cs.length = 1) (h:DataW.trod enc Tryz.prog W 0 (fun _ => true) true f 3 cs = some y):∃ x,cs = clI x:=by
 obtain ⟨x,rfl,_⟩:=DataW.trod_int Tryz.underlying3 h
 exact ⟨x,rfl⟩
theorem open_state14 {H:Type} {enc:TypeId × Value→H} {W:World} {base:Nat} {v:Value} {d:DataW H} {p:List MemPlace} (hv:Value.okWide Tryz.prog W .any base 28 v) (h:DataW.Trod enc Tryz.prog W 0 (fun _ => true) true 28 v d p) :
  ∃ (A0 A1 A2 A3 A4:Option Addr) (n0 n1 n2 n3 n4 c0 c1 c2 c3 c4:Nat) (sq:Int) (S:Sv14),v = .agg #[.slice A0 n0 c0,.slice A1 n1 c1,.slice A2 n2 c2,.slice A3 n3 c3,.slice A4 n4 c4,.int .i64 sq]∧(Small14 n0 n1 n2 n3 n4→SA14 W S A0 A1 A2 A3 A4 n0 n1 n2 n3 n4 c0 c1 c2 c3 c4 sq):=by
 obtain ⟨cs,rfl,hsz⟩:=okWide_struct Tryz.underlying28 hv
 rw [show Tryz.prog.cellsOf 28 = 6 by kernel_rfl] at hsz
 obtain ⟨l,rfl⟩:∃ l:List Value,cs = l.toArray:=⟨cs.toList,by simp⟩
 obtain ⟨fuel,hf⟩:=h
 simp only [Value.cells] at hf
 obtain ⟨n,hg⟩:=trod_fld14 Tryz.underlying28 hf
 match l,hsz with
 | [z0,z1,z2,z3,z4,z5],_ =>
  obtain ⟨y0,g0⟩:=hg 0 _ rfl
  have g0:DataW.trod enc Tryz.prog W 0 (fun _ => true) true n 22 (([z0,z1,z2,z3,z4,z5].drop 0).take (Tryz.prog.cellsOf 22)) = some y0:=g0
  rw [show Tryz.prog.cellsOf 22 = 1 by kernel_rfl] at g0
  obtain ⟨A0,n0,c0,x0,e0,l0,r0,k0⟩:=open_rows14 len14C (by omega) Tryz.underlying22 (by kernel_rfl) elem14_C (v:=z0) (by simpa using g0)
  obtain ⟨y1,g1⟩:=hg 1 _ rfl
  have g1:DataW.trod enc Tryz.prog W 0 (fun _ => true) true n 23 (([z0,z1,z2,z3,z4,z5].drop 1).take (Tryz.prog.cellsOf 23)) = some y1:=g1
  rw [show Tryz.prog.cellsOf 23 = 1 by kernel_rfl] at g1
  obtain ⟨A1,n1,c1,x1,e1,l1,r1,k1⟩:=open_rows14 len14T (by omega) Tryz.underlying23 (by kernel_rfl) elem14_T (v:=z1) (by simpa using g1)
  obtain ⟨y2,g2⟩:=hg 2 _ rfl
  have g2:DataW.trod enc Tryz.prog W 0 (fun _ => true) true n 24 (([z0,z1,z2,z3,z4,z5].drop 2).take (Tryz.prog.cellsOf 24)) = some y2:=g2
  rw [show Tryz.prog.cellsOf 24 = 1 by kernel_rfl] at g2
  obtain ⟨A2,n2,c2,x2,e2,l2,r2,k2⟩:=open_rows14 len14H (by omega) Tryz.underlying24 (by kernel_rfl) elem14_H (v:=z2) (by simpa using g2)
  obtain ⟨y3,g3⟩:=hg 3 _ rfl
  have g3:DataW.trod enc Tryz.prog W 0 (fun _ => true) true n 25 (([z0,z1,z2,z3,z4,z5].drop 3).take (Tryz.prog.cellsOf 25)) = some y3:=g3
  rw [show Tryz.prog.cellsOf 25 = 1 by kernel_rfl] at g3
  obtain ⟨A3,n3,c3,x3,e3,l3,r3,k3⟩:=open_rows14 len14L (by omega) Tryz.underlying25 (by kernel_rfl) elem14_L (v:=z3) (by simpa using g3)
  obtain ⟨y4,g4⟩:=hg 4 _ rfl
  have g4:DataW.trod enc Tryz.prog W 0 (fun _ => true) true n 26 (([z0,z1,z2,z3,z4,z5].drop 4).take (Tryz.prog.cellsOf 26)) = some y4:=g4
  rw [show Tryz.prog.cellsOf 26 = 1 by kernel_rfl] at g4
  obtain ⟨A4,n4,c4,x4,e4,l4,r4,k4⟩:=open_rows14 len14I (by omega) Tryz.underlying26 (by kernel_rfl) elem14_I (v:=z4) (by simpa using g4)
  obtain ⟨y5,g5⟩:=hg 5 _ rfl
  have g5:DataW.trod enc Tryz.prog W 0 (fun _ => true) true n 3 (([z0,z1,z2,z3,z4,z5].drop 5).take (Tryz.prog.cellsOf 3)) = some y5:=g5
  rw [cells14_int] at g5
  obtain ⟨sq,e5,_,_⟩:=DataW.trod_int Tryz.underlying3 g5
  simp at e5
  subst e0 e1 e2 e3 e4 e5
  refine ⟨A0,A1,A2,A3,A4,n0,n1,n2,n3,n4,c0,c1,c2,c3,c4,sq,⟨x0,x1,x2,x3,x4,sq⟩,rfl,fun hs => ?_⟩
  obtain ⟨s0,s1,s2,s3,s4⟩:=hs
  exact ⟨l0,l1,l2,l3,l4,r0,r1,r2,r3,r4,k0,k1,k2,k3,k4,by omega,by omega,by omega,by omega,by omega,rfl⟩
set_option maxRecDepth 100000 in
theorem worthTells_lifted (os:Os) (started:os.Started) (H:Type) (enc:TypeId × Value→H) :
  ReturnsInHanded {} Tryz.checked os 3 .any (Rows.worthTellsSpec.pre6 enc Tryz.prog Tryz.f3 Rows.worthTellsRow.domain false) (Rows.worthTellsSpec.post enc Tryz.prog Tryz.f3 false true false false):=by
 refine returnsInHanded_of_change (C:=Tryz.checked) own_knob started (by kernel_rfl) Tryz.func3
  (ChangeSpec.witness6 (enc:=enc) (C:=Tryz.checked) false ⟨#[],#[.agg #[.slice none 0 0,.slice none 0 0,.slice none 0 0,.slice none 0 0,.slice none 0 0,.int .i64 0]],[]⟩ 8 (by kernel_rfl) (by kernel_rfl) (by kernel_rfl) (by kernel_rfl)) ?_
 intro W base args ds gs before hval0 hW hcnd _
 have hval:∀ (j:Nat) t v,Tryz.f3.params[j]? = some t→args[j]? = some v→Value.okWide Tryz.prog W .any base t v:=hval0
 have hW':DataW.Whole enc Tryz.prog Tryz.f3.params.toList Rows.worthTellsSpec.vars false W args.toList ds gs before:=hW
 obtain ⟨p,q,hA0,hV,hpq,hfz,hnd⟩:=hW
 have hA:DataW.TrodAll enc Tryz.prog W 0 (fun _ => true) true Tryz.f3.params.toList args.toList ds p:=hA0
 rw [Tryz.params3] at hA hval
 obtain ⟨v0,vs0,d0,ds0,p0,q0,hargs,rfl,rfl,t0,r0⟩:=trodAll_cons hA
 obtain ⟨rfl,rfl,rfl⟩:=trodAll_nil r0
 obtain rfl:args = #[v0]:=by cases args; simp_all
 obtain ⟨A00,A01,A02,A03,A04,n00,n01,n02,n03,n04,c00,c01,c02,c03,c04,q0,S0,rfl,h0⟩:=open_state14 (hval 0 28 v0 rfl rfl) t0
 have hwalk:Calls Tryz.prog 3 #[.agg #[.slice A00 n00 c00,.slice A01 n01 c01,.slice A02 n02 c02,.slice A03 n03 c03,.slice A04 n04 c04,.int .i64 q0]] W fun e w' => e = .returned (.bool true)∧Below W.heap.size W w':=worthTells_all W A00 A01 A02 A03 A04 n00 n01 n02 n03 n04 c00 c01 c02 c03 c04 q0 S0 h0
 refine hwalk.mono fun e W' ⟨he,hg⟩ => ?_
 subst he
 exact ⟨_,rfl,law_post laid_out (by kernel_rfl) Tryz.underlying4 (by kernel_rfl) rfl hW' rfl hg⟩
theorem worthTells_over:Rows.worthTellsRow.holds Tryz.pinned (OpenSpec.ofChange Rows.worthTellsSpec) :=
 OpenClaim.holds_of_wide 3 Tryz.f3 rfl rfl rfl rfl rfl rfl rfl ⟨rfl,rfl,rfl,rfl,rfl⟩ rfl rfl rfl rfl rfl (by kernel_rfl) Tryz.func3 (by kernel_rfl)
  (of_decide_eq_true (by kernel_rfl)) (by unfold Func.isWrapper; first | (rw [if_pos (by decide +kernel)]; kernel_rfl) | (rw [if_neg (by decide +kernel)]; exact ⟨rfl,rfl⟩))
  (fun os started H enc _ => worthTells_lifted os started H enc)
theorem worthTells_holds:Rows.WorthTellsSaid :=
 worthTells_over
end Go.Proofs.YtgopgbfgbddggaaGreat
