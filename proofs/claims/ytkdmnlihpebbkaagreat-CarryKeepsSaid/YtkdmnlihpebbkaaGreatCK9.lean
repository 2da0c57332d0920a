import Derived.Test.YtkdmnlihpebbkaaGreatCK8
import Derived.Lib.ItoaNum
import Derived.Lib.AppendZeros
import Derived.Lib.AppendZerosOnto
import Derived.Deep.QuietTactic
import Derived.Lib.AppendStr
import Derived.Lib.ItoaMem
import Derived.Lib.AppendIntMem
import Derived.Lib.ConvBytes
import Derived.Lib.AtoiErrMem
import Derived.Lib.ParseIntB
set_option linter.all false
set_option maxHeartbeats 4000000
namespace Go.Proofs.YtkdmnlihpebbkaaGreat
section
open Go.RowKit Go.Shelf
set_option maxRecDepth 100000
attribute [local go_sem] Oper.semAt_some
theorem compareInt_eq (a b:Nat):Lib.compareInt (a:Int) (b:Int) = cmpI a b:=by
 unfold Lib.compareInt cmpI;split <;> split <;> first | rfl | omega | (split <;> first | rfl | omega)
theorem isNaN32 (x:Int) (w:World):Calls Tryz.prog 85 #[.int .u32 x] w fun e w' => e = .returned (.bool false)/\w = w':=by
 go_enter Tryz.func85,Tryz.ntmps85;go_wp2;go_ret;exact ⟨rfl,rfl⟩
theorem compare32 (a b:Nat) (w:World) (ha:a < 4294967296) (hb:b < 4294967296):Calls Tryz.prog 64 #[.int .u32 (a:Int),.int .u32 (b:Int)] w fun e w' => e = .returned (.int .i64 (cmpI a b))/\w = w':=by
 obtain ⟨z,hz⟩:=exq (cmpI a b);rw [hz]
 have h3:(a < b/\z = -1)\/(b < a/\¬ a < b/\z = 1)\/(a = b/\z = 0):=by
  rcases Nat.lt_trichotomy a b with h | h | h
  · exact .inl ⟨h,by rw [<- hz,cmpI_lt h]⟩
  · exact .inr (.inr ⟨h,by rw [<- hz,cmpI_eq h]⟩)
  · exact .inr (.inl ⟨h,by omega,by rw [<- hz,cmpI_gt h]⟩)
 clear hz;rcases h3 with ⟨h1,rfl⟩ | ⟨h1,h2,rfl⟩ | ⟨rfl,rfl⟩
 all_goals
  go_enter Tryz.func64,Tryz.ntmps64;go_wp2_with (go_at_call 85; refine (isNaN32 _ _).mono ?_; rintro e w' ⟨rfl,rfl⟩);go_ret;exact ⟨rfl,rfl⟩
def IsBits (a b:Nat):Prop:=a < 2 ^ b/\(b = 0\/2 ^ (b - 1)<=a)
theorem bits_len {d low k:Nat} (hd:d < 4294967296) (h0:d≠0) (hlow:low < 4294967296 ^ k):IsBits (low + 4294967296 ^ k * d) (k * 32 + Lib.bitLen d):=by
 obtain ⟨h1,h2,h3⟩:=Lib.bitLenAux_bounds 64 d (Nat.lt_trans hd (by decide)) h0;have e:Lib.bitLenAux 64 d = Lib.bitLen d:=rfl;rw [e] at h1 h2 h3;generalize Lib.bitLen d = l at *
 have hp:(4294967296:Nat) ^ k = 2 ^ (k * 32):=by rw [show (4294967296:Nat) = 2 ^ 32 by decide,<- Nat.pow_mul,Nat.mul_comm]
 rw [hp] at hlow ⊢;refine ⟨?_,.inr ?_⟩
 ·
  rw [Nat.pow_add];have:2 ^ (k * 32) * (d + 1)<=2 ^ (k * 32) * 2 ^ l:=Nat.mul_le_mul_left _ h3;rw [Nat.mul_add] at this;omega
 ·
  rw [show k * 32 + l - 1 = k * 32 + (l - 1) by omega,Nat.pow_add];have:2 ^ (k * 32) * 2 ^ (l - 1)<=2 ^ (k * 32) * d:=Nat.mul_le_mul_left _ h2;omega
theorem natBits_any (A:Option Addr) (xs:List Nat) (n c:Nat) (w:World) (hl:xs.length = n) (hr:Ra w w.heap.size A xs) (hd:Dg xs) (hn:n<=10000000) (hc:n<=c) :
  Calls Tryz.prog 158 #[.slice A n c] w fun e w' => ∃ b:Nat,e = .returned (.int .i64 (b:Int))/\IsBits (U xs) b/\w = w':=by
 have hcan:=cl_can hd;have hU:=cl_U xs;have hcl:=cl_le xs;go_enter Tryz.func158,Tryz.ntmps158;go_wp2_with fail;refine (shorten_cl A xs n c w hl hr hd hn hc).mono ?_;rintro e w' ⟨rfl,rfl⟩;obtain ⟨m,hm⟩:=exq (cl xs);rw [hm] at hcan hU hcl ⊢;have hmn:m<=n:=by omega
 have HC:=qz hcan;have HL:=qz hl;clear hm hcan hl;by_cases h0:0 < m
 ·
  obtain ⟨k,rfl⟩:∃ k,m = k + 1:=⟨m - 1,by omega⟩
  obtain ⟨b,o,hA,_,cx⟩:=hr.at_ (k:=k) (by omega);subst hA;have hdk:=hd.nth k
  have hb:IsBits (U xs) (k * 32 + Lib.bitLen (nth xs k)):=by
   rw [<- hU,U_take_succ];refine bits_len hdk ?_ ?_
   ·
    have h1:=HC.out.2 (by intro h; have h2:=congrArg List.length h; rw [List.length_take,List.length_nil] at h2; have:=HL.out; omega);have h2:(xs.take (k + 1)).length = k + 1:=by simp; omega
    rw [h2,nth_take (by omega)] at h1;simpa using h1
   ·
    have h1:=U_lt (hd.take k)
    rwa [show (xs.take k).length = k by simp; omega] at h1
  have HB:=qz hb;have hbl:Lib.bitLen (nth xs k)<=32:=Lib.bitLen_le _ 32 (by omega) (Nat.lt_of_lt_of_le hdk (by decide));obtain ⟨l,hll⟩:=exq (Lib.bitLen (nth xs k));rw [hll] at HB hbl;have HLL:=qz hll;clear hb hll hU;go_wp2_with fail;refine (Tryz.bits_Len32 ((nth xs k:Nat):Int) _ (by omega) (by omega)).mono ?_;rintro e w' ⟨rfl,rfl⟩
  rw [Int.toNat_natCast,HLL.out];go_wp2_with fail;go_ret;exact ⟨k * 32 + l,by go_num,HB.out,rfl⟩
 ·
  obtain rfl:m = 0:=by omega
  have h1:U xs = 0:=by rw [<- hU]; simp [U]
  have HU:=qz h1;clear h1 hU;go_wp2_with fail;go_ret;exact ⟨0,rfl,⟨by rw [HU.out]; decide,.inl rfl⟩,rfl⟩
theorem cmp_at {xs ys:List Nat} {m p:Nat} (hx:Dg xs) (hy:Dg ys) (hlx:xs.length = m) (hly:ys.length = m) (hp:p < m) (he:∀ j,p < j->nth xs j = nth ys j) (hne:nth xs p≠nth ys p):cmpI (U xs) (U ys) = cmpI (nth xs p) (nth ys p):=by
 have hdrop:xs.drop (p + 1) = ys.drop (p + 1):=by
  apply List.ext_getElem
  · simp [hlx,hly]
  ·
   intro i h1 h2;have:=he (p + 1 + i) (by omega);simp only [List.length_drop] at h1 h2;rw [nth_in (by omega),nth_in (by omega)] at this;simpa using this
 have split:∀ zs:List Nat,zs.length = m->U zs = U (zs.take p) + 4294967296 ^ p * nth zs p + 4294967296 ^ (p + 1) * U (zs.drop (p + 1)):=fun zs hl => by
  have:=U_append (zs.take (p + 1)) (zs.drop (p + 1));rw [List.take_append_drop,List.length_take,Nat.min_eq_left (by omega),U_take_succ] at this;exact this
 have h1:=U_lt (hx.take p);have h2:=U_lt (hy.take p);rw [show (xs.take p).length = p by simp; omega] at h1;rw [show (ys.take p).length = p by simp; omega] at h2;rw [split xs hlx,split ys hly,hdrop];generalize 4294967296 ^ (p + 1) * U (ys.drop (p + 1)) = R;generalize U (xs.take p) = a at *
 generalize U (ys.take p) = b at *
 generalize 4294967296 ^ p = P at *
 rcases Nat.lt_or_gt_of_ne hne with h | h
 ·
  rw [cmpI_lt h];have:P * (nth xs p + 1)<=P * nth ys p:=Nat.mul_le_mul_left _ h;rw [Nat.mul_add] at this;exact cmpI_lt (by omega)
 ·
  rw [cmpI_gt h];have:P * (nth ys p + 1)<=P * nth xs p:=Nat.mul_le_mul_left _ h;rw [Nat.mul_add] at this;exact cmpI_gt (by omega)
theorem cmp_len {xs ys:List Nat} (hx:Cn xs) (hy:Cn ys) (h:xs.length < ys.length):U xs < U ys:=by
 have h1:=U_lt hx.1;have h2:=U_ge hy (by rintro rfl; simp at h);have h3:=Nat.pow_le_pow_right (show 0 < 4294967296 by omega) (show xs.length<=ys.length - 1 by omega);omega
end
section
open Go.RowKit Go.Shelf
set_option maxRecDepth 100000
attribute [local go_sem] Oper.semAt_some
structure CmpMem (w:World) (s:Value) (W:World):Prop where
 below:Below w.heap.size w W
 two:Blk W w.heap.size 44 #[s]
 res:Blk W (w.heap.size + 1) 3 #[.int .i64 0]
theorem natCmp_any (A1 A2:Option Addr) (xs ys:List Nat) (n1 c1 n2 c2:Nat) (w:World) (hl1:xs.length = n1) (hl2:ys.length = n2) (hr1:Ra w w.heap.size A1 xs) (hr2:Ra w w.heap.size A2 ys)
  (hd1:Dg xs) (hd2:Dg ys) (hn1:n1<=1000000) (hn2:n2<=1000000) (hc1:n1<=c1) (hc2:n2<=c2) :
  Calls Tryz.prog 41 #[.slice A1 n1 c1,.slice A2 n2 c2] w fun e w' => e = .returned (.int .i64 (cmpI (U xs) (U ys)))/\Below w.heap.size w w':=by
 obtain ⟨z,hz⟩:=exq (cmpI (U xs) (U ys));rw [hz];have HZ:=qz hz;have hk1:=cl_can hd1;have hk2:=cl_can hd2;have hU1:=cl_U xs;have hU2:=cl_U ys;have hcl1:=cl_le xs;have hcl2:=cl_le ys;have sh1:=fun wz (h:Below w.heap.size w wz) => shorten_cl A1 xs n1 c1 wz hl1 ((hr1.below h (Nat.le_refl _)).more h.size) hd1 (by omega) hc1
 have sh2:=fun wz (h:Below w.heap.size w wz) => shorten_cl A2 ys n2 c2 wz hl2 ((hr2.below h (Nat.le_refl _)).more h.size) hd2 (by omega) hc2
 obtain ⟨m1,hm1⟩:=exq (cl xs);obtain ⟨m2,hm2⟩:=exq (cl ys);rw [hm1] at hk1 hU1 hcl1;rw [hm2] at hk2 hU2 hcl2;simp only [hm1] at sh1;simp only [hm2] at sh2;have hmn1:m1<=n1:=by omega
 have hmn2:m2<=n2:=by omega
 have HL1:Hid ((xs.take m1).length = m1):=qz (by simp; omega);have HL2:Hid ((ys.take m2).length = m2):=qz (by simp; omega);have HZ2:Hid (cmpI (U (xs.take m1)) (U (ys.take m2)) = z):=qz (by rw [hU1,hU2]; exact HZ.out);have HC1:=qz hk1;have HC2:=qz hk2;clear hz HZ hk1 hk2 hU1 hU2 hl1 hl2 hm1 hm2 hcl1 hcl2;refine calls_of_leave Tryz.func41 rfl ?_
 simp only [Tryz.ntmps41,List.size_toArray,List.length_cons,List.length_nil,Nat.reduceAdd,Nat.reduceSub,Array.replicate_succ,Array.replicate_zero,List.push_toArray,List.append_toArray,List.nil_append,List.cons_append]
 have hB0:Below w.heap.size w ((w.alloc (.cells #[.slice A2 n2 c2] 44)).alloc (.cells #[.int .i64 0] 3)).drew:=(((Below.refl _ w).alloc (Nat.le_refl _) _).alloc (by simp) _).drew;go_upto_region 1 with (fail)
 go_cut [0] from 9 to 12 (fun a wx => a = .slice A1 m1 c1/\CmpMem w (.slice A2 m2 c2) wx)
 case first =>
  go_region_with (first
   | (go_at_call 61; (with_reducible refine (sh1 _ (by assumption)).mono ?_); rintro e w' ⟨rfl,rfl⟩)
   | (go_at_call 61; (with_reducible refine (sh2 _ (by assumption)).mono ?_); rintro e w' ⟨rfl,rfl⟩))
  all_goals
   go_wp2_with fail;go_meet;have hbk:=Blk.new (w.alloc (.cells #[.slice A2 m2 c2] 44)) 3 #[.int .i64 0];rw [World.size_alloc] at hbk;exact ⟨rfl,(((Below.refl _ w).alloc (Nat.le_refl _) _).alloc (by simp) _).drew,(Blk.new w 44 #[.slice A2 m2 c2]).alloc _,hbk⟩
 case rest =>
  obtain ⟨rfl,hm⟩:=hcut;have c2c:=hm.two.cell 0;have f2c:=hm.two.frozen 0;have HM:=qz hm;clear hm;have cr:=HM.out.res.cell 0;have fr:=HM.out.res.frozen 0;have hci:=compareInt_eq m1 m2;rcases Nat.lt_trichotomy m1 m2 with hlt | heq | hgt
  ·
   have hz:z = -1:=by rw [<- HZ2.out,cmpI_lt (cmp_len HC1.out HC2.out (by rw [HL1.out,HL2.out]; exact hlt))]
   rw [cmpI_lt hlt] at hci;subst hz;have HCI:=qz hci;clear hci;go_wp2_with fail;refine (Tryz.cmp_Compare_int (m1:Int) (m2:Int) _).mono ?_;rintro e w' ⟨rfl,rfl⟩;rw [HCI.out];go_wp2_with fail;exact leave_plain (v:=.int .i64 (-1)) (by simp [results,Tryz.results41,go_sem,cr,fr]) ⟨rfl,HM.out.below.setCell (by simp) _⟩
  ·
   subst heq;rw [cmpI_eq rfl] at hci;have HCI:=qz hci;clear hci;go_wp2_with fail;refine (Tryz.cmp_Compare_int (m1:Int) (m1:Int) _).mono ?_;rintro e W0 ⟨rfl,rfl⟩;rw [HCI.out];go_wp2_with fail;refine (backw_calls A1 m1 c1 _).mono ?_;rintro e w' ⟨rfl,rfl⟩;have hm:=HM.out;have hs0:=hm.res.lt
   have hBa:Below w.heap.size w (W0.alloc (.cells #[.slice A1 m1 c1] 44)):=hm.below.alloc (by omega) _;have hrA:Ra (W0.alloc (.cells #[.slice A1 m1 c1] 44)) w.heap.size A1 (xs.take m1):=(hr1.take m1).below hBa (Nat.le_refl _)
   have hgo:=backw_goes Fence.wide 4 trivial rfl (by omega) W0.heap.size A1 (xs.take m1) m1 c1 _ HL1.out (hrA.more (by simp; omega)) (by omega) (by omega) ((Blk.new W0 44 #[.slice A1 m1 c1]).cell 0);have hm2:=hm.two.alloc (.cells #[.slice A1 m1 c1] 44);have hm3:=hm.res.alloc (.cells #[.slice A1 m1 c1] 44)
   have hI0:=And.intro (And.intro (hm2.cell 0) (And.intro (hm3.cell 0) (And.intro (hm3.frozen 0) (fun (j:Nat) (hj:m1 - 0<=j) => (show nth (xs.take m1) j = nth (ys.take m1) j by rw [nth_out (by rw [HL1.out]; omega),nth_out (by rw [HL2.out]; omega)]))))) hBa;have HI0:=qz hI0;clear hI0 hm2 hm3 hm cr fr c2c f2c;go_wp2_with fail;refine (wpIn_wide (n:=5)).1 ?_
   refine wpIn_rangeFunc_goes rfl (by omega) (gf:=84) (lb:=#[.pointer (some ⟨W0.heap.size,0,none⟩)]) rfl trivial (enters_of Tryz.func84 (by kernel_rfl) rfl)
    hgo (bkeep_lt HL1.out (hrA.more (by simp; omega)) (by simp)) (Below.refl _ _) (fun _ => rfl)
    (fun k W => (W.cell? ⟨w.heap.size,0,none⟩ = some (.slice A2 m1 c2)/\W.cell? ⟨w.heap.size + 1,0,none⟩ = some (.int .i64 0)/\W.frozen? ⟨w.heap.size + 1,0,none⟩ = false/\∀ j,m1 - k<=j->nth (xs.take m1) j = nth (ys.take m1) j)/\Below w.heap.size w W)
    (fun c k W => (c = .ret/\W.cell? ⟨w.heap.size + 1,0,none⟩ = some (.int .i64 z))/\Below w.heap.size w W)
    (OwnFrom.and (Own.from (fun s X Y row hs hg hr => ⟨cell_kept hs.1 hg hr,cell_kept hs.2.1 hg hr,(frozen_kept hs.2.1 hg hr).trans hs.2.2.1,hs.2.2.2⟩) _) (ownFrom_below (Nat.le_refl _) (by simp; omega)))
    (fun c => OwnFrom.and (Own.from (fun s X Y row hs hg hr => ⟨hs.1,cell_kept hs.2 hg hr⟩) _) (ownFrom_below (Nat.le_refl _) (by simp; omega)))
    HI0.out ?round ?done ?stop
   case round =>
    intro l k W hk _;simp only [benc];gi_wp2;refine ⟨trivial,?_⟩;rintro W ⟨⟨h2,h3,h4,h5⟩,hB⟩;obtain ⟨p,hp⟩:=exq (m1 - 1 - k);have hpm:p < m1:=by omega
    rw [hp];have HP:=qz hp;obtain ⟨b2,o2,hA2,_,cy⟩:=((hr2.take m1).below hB (Nat.le_refl _)).at_ (k:=p) (by rw [HL2.out]; exact hpm);subst hA2;have hxp:=HC1.out.1.nth p;have hyp:=HC2.out.1.nth p;have H5:=qz h5;clear h5 hp;gi_wp2_with fail
    refine ⟨trivial,(CallsIn.inRound l (callsIn_wide.2 (compare32 (nth (xs.take m1) p) (nth (ys.take m1) p) _ hxp hyp))).mono ?_⟩;rintro e W2 ⟨rfl,rfl⟩;by_cases heq:nth (xs.take m1) p = nth (ys.take m1) p
    ·
     rw [cmpI_eq heq];have HE:=qz heq;clear heq;gi_wp2;refine ⟨KeepsFrom.refl _ _,Same.refl _ _,⟨h2,h3,h4,fun j hj => ?_⟩,hB⟩;rcases Nat.lt_or_ge p j with h | h
     · exact H5.out j (by have:=HP.out; omega)
     · rw [show j = p by have:=HP.out; omega]; exact HE.out
    ·
     have hz:cmpI (nth (xs.take m1) p) (nth (ys.take m1) p) = z:=by rw [<- HZ2.out,cmp_at HC1.out.1 HC2.out.1 HL1.out HL2.out hpm (fun j hj => H5.out j (by have:=HP.out; omega)) heq]
     have hz0:(z == 0) = false/\(z != 0) = true:=by
      rcases Nat.lt_or_gt_of_ne heq with h | h
      · rw [cmpI_lt h] at hz; subst hz; exact ⟨rfl,rfl⟩
      · rw [cmpI_gt h] at hz; subst hz; exact ⟨rfl,rfl⟩
     have hzn:¬ z = 0:=by intro h; rw [h] at hz0; simp at hz0
     obtain ⟨hz1,hz2⟩:=hz0;rw [hz];have HZZ:=qz hz;clear hz heq;gi_wp2;exact ⟨(KeepsOthers.setCell _ _ _).from _,⟨rfl,World.cell?_setCell_same' _ _ _ (by rw [h3]; rfl)⟩,hB.setCell (by simp) _⟩
   case done =>
    rintro D W hD ⟨⟨h2,h3,h4,h5⟩,hB⟩ hK
    have hz:z = 0:=by
     rw [<- HZ2.out];refine cmpI_eq (congrArg U (List.ext_getElem (by rw [HL1.out,HL2.out]) fun i h1 h2 => ?_));have:=h5 i (by omega)
     rwa [nth_in h1,nth_in h2] at this
    subst hz;have hD2:w.heap.size<=D:=Nat.le_trans hBa.size hD;have hK':=(KeepsOthers.setCell W ⟨w.heap.size + 1,0,none⟩ (.int .i64 0)).same D _ hK rfl;have h3':=World.cell?_setCell_same' W ⟨w.heap.size + 1,0,none⟩ (.int .i64 0) (by rw [h3]; rfl);go_wp2_with fail
    exact leave_mark (v:=.int .i64 0) hK' (by simp [results,Tryz.results41,go_sem,mark_cell hK' h3']) ⟨rfl,mark_below (hB.setCell (by simp) _) hK' hD2⟩
   case stop =>
    rintro D c k W hD _ ⟨⟨rfl,h3⟩,hB⟩ hK;have hD2:w.heap.size<=D:=Nat.le_trans hBa.size hD;refine wpIn_wide.2 ?_;go_wp2_with fail;exact leave_mark (v:=.int .i64 z) hK (by simp [results,Tryz.results41,go_sem,mark_cell hK h3]) ⟨rfl,mark_below hB hK hD2⟩
  ·
   have hz:z = 1:=by rw [<- HZ2.out,cmpI_gt (cmp_len HC2.out HC1.out (by rw [HL1.out,HL2.out]; exact hgt))]
   rw [cmpI_gt hgt] at hci;subst hz;have HCI:=qz hci;clear hci;go_wp2_with fail;refine (Tryz.cmp_Compare_int (m1:Int) (m2:Int) _).mono ?_;rintro e w' ⟨rfl,rfl⟩;rw [HCI.out];go_wp2_with fail;exact leave_plain (v:=.int .i64 1) (by simp [results,Tryz.results41,go_sem,cr,fr]) ⟨rfl,HM.out.below.setCell (by simp) _⟩
end
section
open Go.RowKit
set_option maxRecDepth 100000
theorem zeroCells_u32s (k:Nat):Builtin.zeroCells (Value.int .u32 0).cells k = (u32s (List.replicate k 0)).toArray:=by
 apply Array.ext
 · simp [Builtin.zeroCells,u32s,Value.cells]
 ·
  intro i h1 h2;simp [Builtin.zeroCells,u32s,Value.cells,Nat.mod_one]
section
variable {P:Program} (w:World)
theorem run_append_room_zeros32 (t tn ty e:TypeId) (i:TypeInfo) (ht:P.underlying t = some (.slice e)) (htn:P.underlying tn = some (.int .i64)) (hi:P.info? e = some i) (hz:i.zero = some (.int .u32 0)) (hsz:i.size = 1) (hby:i.bytes = 4)
  (g n cap k:Nat) (cur:Array Value) (hg:w.heap[g]? = some (.cells cur e (0,0))) (hk:0 < k) (hb:n + k<=10000000) (hroom:n + k<=cap) (hfit:n + k<=cur.size) :
  (Builtin.append_ #[t,tn] ty #[.slice (some ⟨g,0,none⟩) n cap,.int .i64 (k:Int)]).run P w =
   .ok (.slice (some ⟨g,0,none⟩) (n + k) cap) (w.setRow g (cur.toList.take n ++ u32s (List.replicate k 0) ++ cur.toList.drop (n + k)).toArray):=by
 have hst:=run_storeCells_at P g n e (u32s (List.replicate k 0)) 0 cur w hg (by simp [u32s]; omega) (u32s_one _);have hlk:(u32s (List.replicate k 0)).length = k:=by simp [u32s]
 simp only [Nat.add_zero,hlk] at hst;have hw:IntKind.i64.wrap (k:Int) = k:=by rw [IntKind.wrap_i64]; omega
 have hneg:¬ ((k:Int) < 0):=by omega
 have hk0:k≠0:=by omega
 have h48i:¬ (281474976710656 < (k:Int) * 4):=by omega
 have hzc:=zeroCells_u32s k;simp only [Value.cells] at hzc;simp [Builtin.append_,run_underlying ht,run_underlying htn,sizeOf,typeInfo,zeroValue,hi,hz,asInt,asIntOf,hw,hneg,hsz,hby,hk0,h48i,hroom,Addr.add_lit,Value.cells,hzc,hst]
theorem run_append_zeros32 (base:Nat) (t tn ty e:TypeId) (ht:P.underlying t = some (.slice e)) (htn:P.underlying tn = some (.int .i64)) (hinfo:(P.info? e).map (fun i => (i.zero,i.size,i.bytes)) = some (some (.int .u32 0),1,4))
  (v:Value) (n k:Nat) (xs:List Nat) (hown:w.ownsRow base e 1 v n (u32s xs)) (hk:0 < k) (hb:n + k<=10000000) (hbase:base<=w.heap.size) :
  ∃ v' w',(Builtin.append_ #[t,tn] ty #[v,.int .i64 (k:Int)]).run P w = .ok v' w'/\w'.ownsRow base e 1 v' (n + k) (u32s (xs ++ List.replicate k 0))/\w.grownBy w' v.ownBlock:=by
 obtain ⟨i,hi,hz,hsz,hby⟩:=info_parts hinfo;have hlk:(u32s (List.replicate k 0)).length = k:=by simp [u32s]
 have hlen:(u32s (xs ++ List.replicate k 0)).length = (n + k) * 1:=by have:=hown.1; rw [u32s_append,List.length_append,hlk]; omega
 have hzs:(Value.int .u32 0).cells.size = 1:=rfl
 have grown:∀ (old:Nat),old < n + k->∀ (row:Option Nat),
   (w.drew.alloc (.cells ((u32s xs).toArray ++ Builtin.zeroCells (Value.int .u32 0).cells k ++ Builtin.zeroCells (Value.int .u32 0).cells (grownCap w (n + k) old e - (n + k))) e)).ownsRow base e 1
    (.slice (some ⟨w.heap.size,0,none⟩) (n + k) (grownCap w (n + k) old e)) (n + k) (u32s (xs ++ List.replicate k 0)) /\
   w.grownBy (w.drew.alloc (.cells ((u32s xs).toArray ++ Builtin.zeroCells (Value.int .u32 0).cells k ++ Builtin.zeroCells (Value.int .u32 0).cells (grownCap w (n + k) old e - (n + k))) e)) row:=by
  intro old ho row;have hge:=grownCap_ge w (n + k) old e;have hcm:grownCap w (n + k) old e<=maxLen:=grownCap_le_maxLen w (n + k) old e (by unfold maxLen; omega);refine ⟨⟨hlen,.inr ⟨w.heap.size,_,_,rfl,hbase,heap_alloc_new w.drew _,hge,hcm,?_,?_⟩⟩,⟨rfl,rfl,rfl,by simp,fun j hj _ => Below.heap_alloc w.drew _ j hj⟩⟩
  ·
   have:=hown.1;simp only [Array.size_append,List.size_toArray,size_zeroCells,hzs];omega
  ·
   rw [u32s_append,zeroCells_u32s k];have h1:((u32s xs).toArray ++ (u32s (List.replicate k 0)).toArray ++ Builtin.zeroCells (Value.int .u32 0).cells (grownCap w (n + k) old e - (n + k))).toList = (u32s xs ++ u32s (List.replicate k 0)) ++ (Builtin.zeroCells (Value.int .u32 0).cells (grownCap w (n + k) old e - (n + k))).toList:=by simp
   rw [h1,<- u32s_append,<- hlen];exact List.take_left
 rcases hown.2 with ⟨rfl,rfl⟩ | ⟨g,cap,cur,rfl,hbg,hg,hnc,hcm,hcs,htake⟩
 ·
  have hx:xs = []:=by have:=hown.1; rw [u32s_length] at this; exact List.eq_nil_of_length_eq_zero (by omega)
  subst hx;have hr:=Lib.run_append_nil_zeros (P:=P) w t tn ty e i (.int .u32 0) .i64 .i64 ht htn hi hz k hk (by omega) (by omega) (by rw [hby]; omega);have hgr:=grown 0 (by omega) (Value.ownBlock (.slice none 0 0));simp only [Nat.zero_add,u32s,List.map_nil,Array.empty_append] at hgr hr ⊢;exact ⟨_,_,hr,hgr.1,hgr.2⟩
 ·
  by_cases hroom:n + k<=cap
  ·
   have hr:=run_append_room_zeros32 (P:=P) w t tn ty e i ht htn hi hz hsz hby g n cap k cur hg hk hb hroom (by omega);refine ⟨_,_,hr,⟨hlen,.inr ⟨g,cap,_,rfl,hbg,setRow_heap w g cur _ e _ hg,hroom,hcm,?_,?_⟩⟩,⟨rfl,rfl,rfl,by simp,fun j _ hj => setRow_other w g j _ (fun e => hj (by simp [Value.ownBlock,e]))⟩⟩
   ·
    simp only [List.size_toArray,List.length_append,List.length_take,List.length_drop,Array.length_toList,hlk];omega
   ·
    simp only [Nat.mul_one] at htake ⊢;rw [htake,u32s_append];have h2:n + k = (u32s xs ++ u32s (List.replicate k 0)).length:=by rw [<- u32s_append]; omega
    conv => lhs; rw [h2]
    exact List.take_left
  ·
   have holds:∀ j u,(u32s xs)[j]? = some u->w.drew.cell? ((⟨g,0,none⟩:Addr).add j) = some u:=World.ownsRow.cells (g:=g) hown rfl;have hf:=run_firstCells_some (P:=P) w.drew i.size n ⟨g,0,none⟩ n cap (u32s xs) (by rw [hsz]; exact hown.1) holds
   have hr:=Lib.run_append_grow_zeros (P:=P) w t tn ty e i (.int .u32 0) .i64 .i64 ht htn hi hz (some ⟨g,0,none⟩) n cap (u32s xs) hf k hk (by omega) (by omega) (by omega) (by rw [hby]; omega) (growslice_fits (by omega) (by rw [hby]; omega));have hgr:=grown cap (by omega) (Value.ownBlock (.slice (some ⟨g,0,none⟩) n cap));exact ⟨_,_,hr,hgr.1,hgr.2⟩
theorem wpList_append_zeros32 {ops:Array Oper} {rest:List Oper} {o:Oper} {a:Act} {Q:Exit->Act->World->Prop} (hgd:o.guard = none) (s x:Operand) (t tn:TypeId)
  (ho:o.op = .call { callee:=.builtin .append,args:=#[s,x],argTypes:=#[t,tn] })
  (base:Nat) (e:TypeId) (ht:P.underlying t = some (.slice e)) (htn:P.underlying tn = some (.int .i64)) (hinfo:(P.info? e).map (fun i => (i.zero,i.size,i.bytes)) = some (some (.int .u32 0),1,4))
  (v:Value) (n k:Nat) (xs:List Nat) (hs:a.eval s = v) (hown:w.ownsRow base e 1 v n (u32s xs)) (z:Int) (hzk:z = (k:Int)) (hx:a.eval x = .int .i64 z) (hk:0 < k) (hb:n + k<=10000000) (hbase:base<=w.heap.size)
  (h:∀ A' n' c' w',Hid (n' = n + k)->n'<=c'->Hid (w'.ownsRow base e 1 (.slice A' n' c') n' (u32s (xs ++ List.replicate k 0)))->w.grownBy w' v.ownBlock->wpList P ops Q rest (a.put o.dst (.slice A' n' c')) w') :
  wpList P ops Q (o :: rest) a w:=by
 subst hzk;refine wpList_plain hgd fun K hK => ?_
 obtain ⟨v',w',hrun,h2,h3⟩:=run_append_zeros32 (P:=P) w base t tn o.type e ht htn hinfo v n k xs hown hk hb hbase;unfold Oper.wp execOp;simp only [ho,resolve,invoke,builtin,Sem.run_bind,Sem.run_pure,Result.andThen_ok,List.map_toArray,List.map_cons,List.map_nil,hs,hx,hrun];obtain ⟨A',c',rfl,hc'⟩:=ownsRow_form w' h2;exact hK _ _ (h A' _ c' w' rfl hc' h2 h3)
end
end
section
open Go.RowKit Go.Shelf
set_option maxRecDepth 100000
attribute [local go_sem] Oper.semAt_some
theorem div32_bounds {h l y:Nat} (hy:h < y) (hyb:y < 4294967296) (hl:l < 4294967296):(h * 4294967296 + l) / y < 4294967296/\(h * 4294967296 + l) % y < y:=by
 refine ⟨?_,Nat.mod_lt _ (by omega)⟩;rw [Nat.div_lt_iff_lt_mul (by omega)];have:(h + 1) * 4294967296<=y * 4294967296:=Nat.mul_le_mul_right _ hy;rw [Nat.mul_comm 4294967296 y];omega
theorem or_hl {h l:Nat} (hh:h < 4294967296) (hl:l < 4294967296):bits .or .u64 ((h:Int) * 4294967296) (l:Int) = ((h * 4294967296 + l:Nat):Int):=by
 rw [show (h:Int) * 4294967296 = ((h * 4294967296:Nat):Int) by omega,or_low32 h l hh hl]
theorem div32_any (h l y:Nat) (w:World) (hy:h < y) (hyb:y < 4294967296) (hl:l < 4294967296) :
  Calls Tryz.prog 140 #[.int .u32 (h:Int),.int .u32 (l:Int),.int .u32 (y:Int)] w fun e w' =>
   e = .returned (.tuple #[.int .u32 (((h * 4294967296 + l) / y:Nat):Int),.int .u32 (((h * 4294967296 + l) % y:Nat):Int)])/\∃ n,w' = w.drewN n:=by
 obtain ⟨hq,hr⟩:=div32_bounds hy hyb hl;obtain ⟨T,hT⟩:=exq (h * 4294967296 + l);obtain ⟨q,hq0⟩:=exq (T / y);obtain ⟨r,hr0⟩:=exq (T % y);have hor:bits .or .u64 ((h:Int) * 4294967296) (l:Int) = (T:Int):=by rw [or_hl (by omega) hl,hT]
 have hTb:T < 18446744073709551616:=by omega
 rw [hT,hq0] at hq;rw [hT,hr0] at hr;rw [hT,hq0,hr0];have y0:¬ (y:Int) = 0:=by omega
 have ed:(T:Int).tdiv (y:Int) = (q:Int):=by rw [Int.tdiv_eq_ediv_of_nonneg (by omega),<- hq0]; rfl
 have em:(T:Int).tmod (y:Int) = (r:Int):=by rw [Int.tmod_eq_emod_of_nonneg (by omega),<- hr0]; rfl
 have yne:((y:Int) != 0) = true:=by simp; omega
 have yle:decide ((y:Int)<=(h:Int)) = false:=by simp; omega
 have wy:IntKind.u64.wrap (y:Int) = y:=IntWalk.u64_in _ (by omega);have wq:IntKind.u64.wrap (q:Int) = q:=IntWalk.u64_in _ (by omega);have wq2:IntKind.u32.wrap (q:Int) = q:=IntWalk.u32_in _ (by omega);have wr2:IntKind.u32.wrap (r:Int) = r:=IntWalk.u32_in _ (by omega);have wr3:IntKind.u64.wrap (r:Int) = r:=IntWalk.u64_in _ (by omega)
 have yb0:((y:Int) == 0) = false:=by simp; omega
 clear hT hq0 hr0;go_enter Tryz.func140,Tryz.ntmps140;go_wp2_with fail
 go_quiet (fail)
 go_wp2_with fail;go_ret2;exact ⟨rfl,_,rfl⟩
def DivD (xs zs:List Nat) (n d k rest:Nat):Prop :=
 zs.length = n/\Dg zs/\(∀ j,j < n - k->nth zs j = nth xs j)/\U (zs.drop (n - k)) = U (xs.drop (n - k)) / d/\rest = U (xs.drop (n - k)) % d
theorem DivD.step {xs zs:List Nat} {n d k rest p:Nat} (h:DivD xs zs n d k rest) (hk:k < n) (hp:n - 1 - k = p) (hd:0 < d) (hd2:d < 4294967296) (hx:Dg xs) :
  DivD xs (zs.set p ((rest * 4294967296 + nth xs p) / d)) n d (k + 1) ((rest * 4294967296 + nth xs p) % d):=by
 obtain ⟨h1,h2,h3,h4,h5⟩:=h;have hr:rest < d:=by rw [h5]; exact Nat.mod_lt _ hd
 obtain ⟨hq,_⟩:=div32_bounds hr hd2 (hx.nth p);have e1:n - (k + 1) = p:=by omega
 have e2:n - k = p + 1:=by omega
 rw [e2] at h3 h4 h5;rw [DivD,e1];have hdx:=U_drop xs p
 have key:U (xs.drop p) = (rest * 4294967296 + nth xs p) + d * (4294967296 * (U (xs.drop (p + 1)) / d)):=by
  rw [hdx];have:=Nat.div_add_mod (U (xs.drop (p + 1))) d;rw [<- h5] at this;generalize U (xs.drop (p + 1)) / d = Q at *
  generalize U (xs.drop (p + 1)) = X at *
  subst this
  grind
 refine ⟨by simp [h1],h2.set hq,fun j hj => by rw [nth_set32 (by omega),if_neg (by omega)]; exact h3 j (by omega),?_,?_⟩
 ·
  have hdz:=U_drop (zs.set p ((rest * 4294967296 + nth xs p) / d)) p;rw [nth_set32 (by omega),if_pos rfl,nth_drop_ext (a:=zs.set p ((rest * 4294967296 + nth xs p) / d)) (b:=zs) (k:=p + 1) (by simp) (fun j hj => by rw [nth_set32 (by omega),if_neg (by omega)]),h4] at hdz;rw [hdz,key,Nat.add_mul_div_left _ _ hd]
 · rw [key,Nat.add_mul_mod_self_left]
def DividedBy (w:World) (g:Nat) (L:List Value) (xs:List Nat) (R:List Value) (n d:Nat) (e:Ending) (w':World):Prop :=
 ∃ zs,e = .returned (.int .u32 ((U xs % d:Nat):Int))/\zs.length = n/\Dg zs/\U zs = U xs / d/\Win w' g 86 L zs R/\w.grownBy w' (some g)
structure DMem (w:World) (g o n c d:Nat) (L R:List Value) (xs:List Nat) (k:Nat) (W:World):Prop where
 one:Blk W w.heap.size 44 #[.slice (some ⟨g,o,none⟩) n c]
 two:Blk W (w.heap.size + 1) 86 #[.int .u32 (d:Int)]
 rest:∃ rest zs,DivD xs zs n d k rest/\Blk W (w.heap.size + 2) 86 #[.int .u32 (rest:Int)]/\Win W g 86 L zs R
 wrote:w.grownBy W (some g)
theorem DMem.kept {w:World} {g o n c d:Nat} {L R:List Value} {xs:List Nat} {k:Nat} {X Y:World} {row:Option Nat} (h:DMem w g o n c d L R xs k X) (hg:X.grownBy Y row) {B:Nat} (hB:w.heap.size<=B)
  (hr:∀ r,row = some r->B<=r/\∃ o:Obj,X.heap[r]? = some o/\o.isCells = false):DMem w g o n c d L R xs k Y:=by
 obtain ⟨rest,zs,h1,h2,h3⟩:=h.rest;have hr2:∀ r,row = some r->∃ o:Obj,X.heap[r]? = some o/\o.isCells = false:=fun r e => (hr r e).2
 exact ⟨h.one.kept hg hr2,h.two.kept hg hr2,⟨rest,zs,h1,h2.kept hg hr2,h3.kept hg hr2⟩,wrote_more h.wrote hg (fun r e => by have:=(hr r e).1; omega)⟩
theorem divByDigit_any (g o:Nat) (L R:List Value) (xs:List Nat) (n c d:Nat) (w:World) (hx:xs.length = n) (hL:L.length = o) (hw:Win w g 86 L xs R)
  (hd:Dg xs) (hn:n<=10000000) (hc:n<=c) (hd0:0 < d) (hdb:d < 4294967296) :
  Calls Tryz.prog 128 #[.slice (some ⟨g,o,none⟩) n c,.int .u32 (d:Int)] w (DividedBy w g L xs R n d):=by
 have HX:=qz hx;have HL:=qz hL;have hgl:=hw.lt;clear hx hL;refine calls_of_leave Tryz.func128 rfl ?_;simp only [Tryz.ntmps128,List.size_toArray,List.length_cons,List.length_nil,Nat.reduceAdd,Nat.reduceSub,Array.replicate_succ,Array.replicate_zero,List.push_toArray,List.append_toArray,List.nil_append,List.cons_append];go_wp2_with fail
 refine (backw_calls _ _ _ _).mono ?_;rintro e w' ⟨rfl,rfl⟩;obtain ⟨W0,hW0⟩:=exq (((((w.alloc (.cells #[.slice (some ⟨g,o,none⟩) n c] 44)).alloc (.cells #[.int .u32 (d:Int)] 86)).alloc (.cells #[.int .u32 0] 86)).alloc (.cells #[.slice (some ⟨g,o,none⟩) n c] 44)));have hs0:W0.heap.size = w.heap.size + 4:=by rw [<- hW0]; simp
 have hB0:Below w.heap.size w W0:=by rw [<- hW0]; exact (((((Below.refl _ w).alloc (Nat.le_refl _) _).alloc (by simp) _).alloc (by simp; omega) _).alloc (by simp; omega) _)
 have hwin0:Win W0 g 86 L xs R:=hw.below hB0 hgl;have b1:Blk W0 w.heap.size 44 #[.slice (some ⟨g,o,none⟩) n c]:=by rw [<- hW0]; exact (((Blk.new w _ _).alloc _).alloc _).alloc _
 have b2:Blk W0 (w.heap.size + 1) 86 #[.int .u32 (d:Int)]:=by
  rw [<- hW0];have:=((Blk.new (w.alloc (.cells #[.slice (some ⟨g,o,none⟩) n c] 44)) 86 #[.int .u32 (d:Int)]).alloc (.cells #[.int .u32 0] 86)).alloc (.cells #[.slice (some ⟨g,o,none⟩) n c] 44);rw [World.size_alloc] at this;exact this
 have b3:Blk W0 (w.heap.size + 2) 86 #[.int .u32 ((0:Nat):Int)]:=by
  rw [<- hW0];have:=(Blk.new ((w.alloc (.cells #[.slice (some ⟨g,o,none⟩) n c] 44)).alloc (.cells #[.int .u32 (d:Int)] 86)) 86 #[.int .u32 0]).alloc (.cells #[.slice (some ⟨g,o,none⟩) n c] 44);rw [World.size_alloc,World.size_alloc] at this;exact this
 have b4:Blk W0 (w.heap.size + 3) 44 #[.slice (some ⟨g,o,none⟩) n c]:=by
  rw [<- hW0];have:=Blk.new (((w.alloc (.cells #[.slice (some ⟨g,o,none⟩) n c] 44)).alloc (.cells #[.int .u32 (d:Int)] 86)).alloc (.cells #[.int .u32 0] 86)) 44 #[.slice (some ⟨g,o,none⟩) n c];rw [World.size_alloc,World.size_alloc,World.size_alloc] at this;exact this
 have hI0:DMem w g o n c d L R xs 0 W0:=⟨b1,b2,⟨0,xs,⟨HX.out,hd,fun _ _ => rfl,by rw [Nat.sub_zero,List.drop_eq_nil_of_le (by rw [HX.out]; omega)]; simp [U],by rw [Nat.sub_zero,List.drop_eq_nil_of_le (by rw [HX.out]; omega)]; simp [U]⟩,b3,hwin0⟩,below_then hB0 (World.grownBy.refl _ _)⟩
 have hrA:=hwin0.reads HL.out;have hgo:=backw_goes Fence.wide 4 trivial rfl (by omega) (w.heap.size + 3) (some ⟨g,o,none⟩) xs n c W0 HX.out hrA hn hc (b4.cell 0);have HI0:=qz hI0;clear b1 b2 b3 b4 hI0 hwin0;go_wp2_with fail;clear hW0;refine (wpIn_wide (n:=5)).1 ?_
 refine wpIn_rangeFunc_goes rfl (by omega) (gf:=84) (lb:=#[.pointer (some ⟨w.heap.size + 3,0,none⟩)]) rfl trivial (enters_of Tryz.func84 (by kernel_rfl) rfl)
  hgo (bkeep_lt HX.out hrA (by omega)) (Below.refl _ _) (fun _ => rfl)
  (fun k W => DMem w g o n c d L R xs k W) (fun _ _ _ => False)
  (fun s X Y row hs hg hr => DMem.kept hs hg (by omega) hr) (fun _ _ _ _ _ hs _ _ => hs) HI0.out ?round ?done ?stop
 case round =>
  intro l k W hk _;simp only [benc];gi_wp2;refine ⟨trivial,?_⟩;intro W hm;obtain ⟨p,hp⟩:=exq (n - 1 - k);have hpn:p < n:=by omega
  rw [hp];obtain ⟨rest,zs,hdd,hb3,hwn⟩:=hm.rest;have c1:=hm.one.cell 0;have c2:=hm.two.cell 0;have c3:=hb3.cell 0;have f3:=hb3.frozen 0;have fp:=hwn.frozen (o + p);have cp:=hwn.cell HL.out (k:=p) (by rw [hdd.1]; exact hpn);have hxp:=hd.nth p;have hrd:rest < d:=by rw [hdd.2.2.2.2]; exact Nat.mod_lt _ hd0
  have HST:=qz (hdd.step hk hp hd0 hdb hd);have HP:=qz hp;have HDD:=qz hdd;have HWN:=qz hwn;have HB3:=qz hb3;have HM:=qz hm;clear hdd hwn hb3 hm hp;have hp0:(0:Int)<=(p:Int):=by omega
  have hp1:(p:Int) < (n:Int):=by omega
  have dv:=fun wz => div32_any rest (nth xs p) d wz hrd hdb hxp
  obtain ⟨q,hq⟩:=exq ((rest * 4294967296 + nth xs p) / d);obtain ⟨r,hr⟩:=exq ((rest * 4294967296 + nth xs p) % d);simp only [hq,hr] at dv HST;clear hq hr;gi_wp2_with fail
  refine round_held (S:=fun w' => w'.cell? ⟨w.heap.size,0,none⟩ = some (.slice (some ⟨g,o,none⟩) n c)/\w'.cell? ⟨w.heap.size + 1,0,none⟩ = some (.int .u32 (d:Int))) (by kernel_rfl) (by kernel_rfl) (fun h => by obtain ⟨_,_,h⟩:=h; exact h) ⟨c1,c2⟩ (fun hHeld => ?_)
  refine wpAnyH_take (i:=0) (v:=?_) rfl (by kernel_rfl) (by kernel_rfl) (by kernel_rfl) (fun _ _ _ h => h) (Or.inl ⟨by rfl,fun w hS => ?_⟩) (by assumption) ?_;rotate_left
  ·
   dsimp only at hS;go_simp
   try with_reducible rfl
  dsimp only [Act.put]
  try simp only [List.setIfInBounds_toArray,List.set_cons_zero,List.set_cons_succ]
  refine wpAnyH_take (i:=1) (v:=?_) rfl (by kernel_rfl) (by kernel_rfl) (by kernel_rfl) (fun _ _ _ h => h) (Or.inl ⟨by rfl,fun w hS => ?_⟩) (by assumption) ?_;rotate_left
  ·
   dsimp only at hS;go_simp
   try with_reducible rfl
  dsimp only [Act.put]
  try simp only [List.setIfInBounds_toArray,List.set_cons_zero,List.set_cons_succ]
  refine wpAnyH_take (i:=3) (v:=?_) rfl (by kernel_rfl) (by kernel_rfl) (by kernel_rfl) (fun _ _ _ h => h) (Or.inl ⟨by rfl,fun w hS => ?_⟩) (by assumption) ?_;rotate_left
  ·
   dsimp only at hS;go_simp
   try with_reducible rfl
  dsimp only [Act.put]
  try simp only [List.setIfInBounds_toArray,List.set_cons_zero,List.set_cons_succ]
  refine wpAnyH_take (i:=4) (v:=?_) rfl (by kernel_rfl) (by kernel_rfl) (by kernel_rfl) (fun _ _ _ h => h) (Or.inl ⟨by rfl,fun w hS => ?_⟩) (by assumption) ?_;rotate_left
  ·
   dsimp only at hS;go_simp
   try with_reducible rfl
  dsimp only [Act.put]
  try simp only [List.setIfInBounds_toArray,List.set_cons_zero,List.set_cons_succ]
  refine wpAnyH_ready (rs:=[2]) (by kernel_rfl) (by simp) (AllReadyH.cons rfl (fun K hK => ?_) AllReadyH.nil);go_simp;refine hK.out _ _ (by assumption) (fun hHeld2 => ?_);clear hK K;refine wpAnyH_ready (rs:=[5]) (by kernel_rfl) (by simp) (AllReadyH.cons rfl (fun K hK => ?_) AllReadyH.nil);go_simp;refine (dv _).mono ?_;rintro e w' ⟨rfl,n1,rfl⟩
  refine hK.out _ _ ⟨c1,c2⟩ (fun hHeld3 => ?_);clear hK K;refine wpAnyH_take (i:=6) (v:=?_) rfl (by kernel_rfl) (by kernel_rfl) (by kernel_rfl) (fun _ _ _ h => h) (Or.inl ⟨by rfl,fun w hS => ?_⟩) (by assumption) ?_;rotate_left
  ·
   dsimp only at hS;go_simp
   try with_reducible rfl
  dsimp only [Act.put]
  try simp only [List.setIfInBounds_toArray,List.set_cons_zero,List.set_cons_succ]
  refine wpAnyH_take (i:=7) (v:=?_) rfl (by kernel_rfl) (by kernel_rfl) (by kernel_rfl) (fun _ _ _ h => h) (Or.inl ⟨by rfl,fun w hS => ?_⟩) (by assumption) ?_;rotate_left
  ·
   dsimp only at hS;go_simp
   try with_reducible rfl
  dsimp only [Act.put]
  try simp only [List.setIfInBounds_toArray,List.set_cons_zero,List.set_cons_succ]
  refine wpAnyH_take (i:=8) (v:=?_) rfl (by kernel_rfl) (by kernel_rfl) (by kernel_rfl) (fun _ _ _ h => h) (Or.inl ⟨by rfl,fun w hS => ?_⟩) (by assumption) ?_;rotate_left
  ·
   dsimp only at hS;go_simp
   try with_reducible rfl
  dsimp only [Act.put]
  try simp only [List.setIfInBounds_toArray,List.set_cons_zero,List.set_cons_succ]
  refine wpAnyH_take (i:=9) (v:=?_) rfl (by kernel_rfl) (by kernel_rfl) (by kernel_rfl) (fun _ _ _ h => h) (Or.inl ⟨by rfl,fun w hS => ?_⟩) (by assumption) ?_;rotate_left
  ·
   dsimp only at hS;go_simp
   try with_reducible rfl
  dsimp only [Act.put]
  try simp only [List.setIfInBounds_toArray,List.set_cons_zero,List.set_cons_succ]
  refine wpAnyH_ready (rs:=[10]) (by kernel_rfl) (by simp) (AllReadyH.cons rfl (fun K hK => ?_) AllReadyH.nil);go_simp;obtain ⟨m1,hm1⟩:=exq (1 + n1);rw [hm1];obtain ⟨W1,hW1⟩:=exq ((W.drewN m1).setCell ⟨g,o + p,none⟩ (.int .u32 (q:Int)))
  have c11:W1.cell? ⟨w.heap.size,0,none⟩ = some (.slice (some ⟨g,o,none⟩) n c):=by rw [<- hW1]; exact (World.cell?_setCell_other _ _ _ _ (by intro e; injection e; omega)).trans c1
  have c12:W1.cell? ⟨w.heap.size + 1,0,none⟩ = some (.int .u32 (d:Int)):=by rw [<- hW1]; exact (World.cell?_setCell_other _ _ _ _ (by intro e; injection e; omega)).trans c2
  have c13:W1.cell? ⟨w.heap.size + 2,0,none⟩ = some (.int .u32 (rest:Int)):=by rw [<- hW1]; exact (World.cell?_setCell_other _ _ _ _ (by intro e; injection e; omega)).trans c3
  have f13:W1.frozen? ⟨w.heap.size + 2,0,none⟩ = false:=by rw [<- hW1,World.frozen?_setCell]; exact f3
  have HD1:Hid (Win W1 g 86 L (zs.set p q) R/\Blk W1 w.heap.size 44 #[.slice (some ⟨g,o,none⟩) n c]/\Blk W1 (w.heap.size + 1) 86 #[.int .u32 (d:Int)]/\Blk W1 (w.heap.size + 2) 86 #[.int .u32 (rest:Int)]/\w.grownBy W1 (some g)/\KeepsOthers W W1/\Same (bkeep (w.heap.size + 3) (some ⟨g,o,none⟩) n k) W W1):=qz (by
   rw [<- hW1];have hwn:Win (W.drewN m1) g 86 L zs R:=HWN.out;refine ⟨hwn.put HL.out (by rw [HDD.out.1]; exact hpn) rfl,?_,?_,?_,?_,(KeepsOthers.drewN W m1).trans (KeepsOthers.setCell _ _ _),(Same.drewN m1).trans (Same.setCell' (fun a ha e => ?_) _)⟩
   · exact Blk.far (w:=W.drewN m1) HM.out.one (by show w.heap.size≠g; omega) _
   · exact Blk.far (w:=W.drewN m1) HM.out.two (by show w.heap.size + 1≠g; omega) _
   · exact Blk.far (w:=W.drewN m1) HB3.out (by show w.heap.size + 2≠g; omega) _
   · exact wrote_set (w:=W.drewN m1) (wrote_more HM.out.wrote (⟨rfl,rfl,rfl,Nat.le_refl _,fun _ _ _ => rfl⟩:W.grownBy (W.drewN m1) none) (fun r e => by cases e)) _ _
   ·
    rcases ha with rfl | ⟨b,o',j,hA,hj,rfl⟩
    · injection e; omega
    ·
     injection hA with hA
     injection hA with h1 h2
     injection e with _ e2
     have:=HP.out
     omega)
  rw [hW1];clear hm1 hW1;refine hK.out _ _ ⟨c11,c12⟩ (fun hHeld4 => ?_);clear hK K;refine wpAnyH_ready (rs:=[11]) (by kernel_rfl) (by simp) (AllReadyH.cons rfl (fun K hK => ?_) AllReadyH.nil);go_simp
  refine hK.out _ _ ⟨(World.cell?_setCell_other _ _ _ _ (by intro e; injection e; omega)).trans c11,(World.cell?_setCell_other _ _ _ _ (by intro e; injection e; omega)).trans c12⟩ (fun hHeld5 => ?_);clear hK K;refine wpAnyH_done (by kernel_rfl) ?_ _;obtain ⟨k1,k2,k3,k4,k5,k6,k7⟩:=HD1.out
  refine ⟨(k6.trans (KeepsOthers.setCell _ _ _)).from _,k7.trans (Same.setCell' (fun a ha e => ?_) _),?_⟩
  ·
   rcases ha with rfl | ⟨b,o',j,hA,hj,rfl⟩
   · injection e; omega
   ·
    injection hA with hA
    injection hA with h1 h2
    injection e with e1 _
    omega
  ·
   refine ⟨k2.far (by simp; omega) _,k3.far (by simp) _,⟨r,zs.set p q,HST.out,?_,k1.far_ (by simp; omega) _⟩,?_⟩
   ·
    have:=k4.set_ 0 (.int .u32 (r:Int));exact this
   · exact wrote_more k5 (grownBy_setCell' W1 (w.heap.size + 2) _) (fun r e => by cases e; omega)
 case done =>
  rintro D W hD hm hK;obtain ⟨rest,zs,⟨hzl,hzd,_,hzU,hzr⟩,hb3,hwn⟩:=hm.rest;rw [Nat.sub_self] at hzU hzr;have c3:=hb3.cell 0;have hD2:w.heap.size<=D:=by omega
  have HR:Hid (rest = U xs % d):=qz (by simpa using hzr);have HZU:Hid (U zs = U xs / d):=qz (by simpa using hzU);have HZL:=qz hzl;have HM:=qz hm;have HWN:=qz hwn;clear hzr hzU hzl hm hwn hb3;go_wp2_with fail;have hgD:W.grownBy (W.putObj D (.deferred none)) (some D):=grownBy_putObj' W D _
  exact leave_mark (v:=.int .u32 (rest:Int)) hK (by simp [results,Tryz.results128,go_sem]) ⟨zs,by rw [HR.out],HZL.out,hzd,HZU.out,HWN.out.kept hgD (fun r e => by cases e; exact ⟨_,hK,rfl⟩),wrote_more HM.out.wrote hgD (fun r e => by cases e; exact hD2)⟩
 case stop =>
  rintro D c k W _ _ h _;exact h.elim
end
section
open Go.RowKit
set_option maxRecDepth 100000
theorem Cn.of_ge {zs:List Nat} (h:Dg zs) (hz:zs≠[]->4294967296 ^ (zs.length - 1)<=U zs):Cn zs:=by
 refine ⟨h,fun hne h0 => ?_⟩;have h1:=hz hne;have hlen:=List.length_pos_iff.2 hne;have h2:=U_take_succ zs (zs.length - 1);rw [U_take_all zs _ (by omega),h0] at h2;have h3:=U_lt (h.take (zs.length - 1));rw [show (zs.take (zs.length - 1)).length = zs.length - 1 by simp] at h3;omega
theorem U_zeros_app (xs:List Nat) (k:Nat):U (xs ++ List.replicate k 0) = U xs:=by
 rw [U_append]
 have:U (List.replicate k 0) = 0:=by
  induction k with
  | zero => rfl
  | succ n ih => rw [List.replicate_succ,U,ih]
 rw [this]; omega
theorem Dg.app {xs ys:List Nat} (h:Dg xs) (k:Dg ys):Dg (xs ++ ys):=fun d hd => by
 rcases List.mem_append.1 hd with h1 | h1
 · exact h d h1
 · exact k d h1
theorem Dg.zeros (k:Nat):Dg (List.replicate k 0):=fun d hd => by have:=(List.mem_replicate.1 hd).2; omega
theorem Cn.one_more {zs:List Nat} (h:Dg zs):Cn (zs ++ [1]):=Cn.snoc h (by omega) (by omega)
theorem U_one_more (zs:List Nat):U (zs ++ [1]) = U zs + 4294967296 ^ zs.length:=by rw [U_append]; simp [U]
theorem Ow.row {w:World} {B n c:Nat} {A:Option Addr} {xs:List Nat} (h:Ow w B (.slice A n c) n xs):(A = none/\n = 0/\c = 0/\xs = [])\/∃ g,A = some ⟨g,0,none⟩:=by
 rcases h.2 with ⟨h2,h3⟩ | ⟨g',cap,cur,hv,_⟩
 ·
  injection h2 with h4 h5 h6
  have:=h.len;exact .inl ⟨h4,h3,h6,List.eq_nil_of_length_eq_zero (by omega)⟩
 ·
  injection hv with h4 h5 h6
  exact .inr ⟨g',h4⟩
theorem addInto_nil (c2:Nat) (A2:Option Addr) (w:World):Calls Tryz.prog 115 #[.slice none 0 0,.slice A2 0 c2] w fun e w' => e = .returned (.int .u32 0)/\w = w':=by
 go_enter Tryz.func115,Tryz.ntmps115;go_wp2_with fail
 go_loop [5,6] (fun cv iv => cv = .int .u64 0/\iv = .int .i64 0) (fun _ _ => 0)
 case atStart => exact ⟨rfl,rfl⟩
 case round =>
  obtain ⟨rfl,rfl⟩:=hrel;go_wp2_with fail;go_ret;exact ⟨rfl,rfl⟩
def AddedOnto (w:World) (B:Nat) (a:Nat) (e:Ending) (w':World):Prop:=∃ v zs,e = .returned v/\Ow w' B v zs.length zs/\Cn zs/\U zs = a/\Below B w w'
theorem wrote_own_below {w w1:World} {B n:Nat} {v:Value} {xs:List Nat} (hg:w.grownBy w1 v.ownBlock) (how:Ow w B v n xs) (hB:B<=w.heap.size):Below B w w1 :=
 (Below.refl B w).grown hg hB (fun k hk => (World.ownsRow.lt how k hk).1)
theorem addOnto_any (B:Nat) (A:Option Addr) (c n:Nat) (xs:List Nat) (A2:Option Addr) (ys:List Nat) (n2 c2:Nat) (w:World) (hown:Ow w B (.slice A n c) n xs) (hx:Cn xs) (hy:Cn ys) (hl2:ys.length = n2) (hc:n<=c)
  (hr2:Ra w B A2 ys) (hB:B<=w.heap.size) (hn:n<=1000000) (hn2:n2<=1000000) :
  Calls Tryz.prog 97 #[.slice A n c,.slice A2 n2 c2] w (AddedOnto w B (U xs + U ys)):=by
 have hl:=hown.len;have HO:=qz hown;have HL:=qz hl;have HL2:=qz hl2;have HX:=qz hx;have HY:=qz hy;have hrow:=hown.row;clear hown hl hl2 hx hy;by_cases hlt:n < n2
 ·
  have hki:(n2:Int) - (n:Int) = ((n2 - n:Nat):Int):=by omega
  have HK:=qz hki;clear hki;go_enter Tryz.func97,Tryz.ntmps97;go_wp2_with (at_builtin; go_loud (refine wpList_append_zeros32 _ rfl (.tmp 11) (.tmp 16) 44 3 rfl B 86 Tryz.underlying44 Tryz.underlying3 info_u32 (.slice A n c) n (n2 - n) xs rfl HO.out ((n2:Int) - (n:Int)) HK.out rfl (by omega) (by omega) hB ?_); intro A' n' c' w1 hn1 hc1 hown1 hg1)
  have hn':n' = n2:=by have:=hn1.out; omega
  subst hn';have hB1:=wrote_own_below hg1 HO.out hB
  obtain ⟨g,rfl⟩:∃ g,A' = some ⟨g,0,none⟩:=by
   rcases Ow.row (xs:=xs ++ List.replicate (n' - n) 0) hown1.out with ⟨_,h,_⟩ | h
   · omega
   · exact h
  obtain ⟨xs',hxs'⟩:∃ z,xs ++ List.replicate (n' - n) 0 = z:=⟨_,rfl⟩
  have how1:Ow w1 B (.slice (some ⟨g,0,none⟩) n' c') n' xs':=by rw [<- hxs']; exact hown1.out
  have HD':Hid (Dg xs'):=qz (by rw [<- hxs']; exact HX.out.1.app (Dg.zeros _));have HXU:Hid (U xs' = U xs):=qz (by rw [<- hxs',U_zeros_app]);have HGE:Hid (4294967296 ^ (n' - 1)<=U xs + U ys):=qz (by have:=U_ge HY.out (by intro h; have:=HL2.out; rw [h] at this; simp at this; omega); rw [HL2.out] at this; omega);have hn2':n'<=n':=Nat.le_refl _
  clear hxs' hown1 hg1 hn1 HO;have hlen':xs'.length = n':=how1.len;obtain ⟨R,hw,hBg,hcap,hmax⟩:=how1.win;have hgl:=hw.lt;have HLN:=qz hlen';clear hlen' how1;refine (addInto_any g 0 [] R xs' ys n' c' n' c2 A2 w1 HLN.out HL2.out rfl hw ((hr2.below hB1 (Nat.le_refl _)).more hBg) HD'.out HY.out.1 (by omega) hn2' hc1).mono ?_
  rintro e w2 ⟨ov,zs,rfl,hzl,hzd,hzU,hov,hwin,hgr⟩;have hB2:Below B w w2:=hB1.trans (wrote_below hgr hBg hgl);have hBs:=hB2.size;have how2:Ow w2 B (.slice (some ⟨g,0,none⟩) n' c') n' zs:=Ow.of_win hwin hzl hBg hcap hmax;have HOW:=qz how2;have HZL:=qz hzl;have HCAP:=qz hcap;clear how2 hzl hw hcap hwin;rcases (show ov = 0\/ov = 1 by omega) with rfl | rfl
  ·
   have hu:U zs = U xs + U ys:=by have:=HXU.out; omega
   have hcz:Cn zs:=Cn.of_ge hzd (fun _ => by rw [HZL.out,hu]; exact HGE.out);have HU:=qz hu;clear hu hzU;go_wp2_with fail;go_ret;exact ⟨_,zs,rfl,by rw [HZL.out]; exact HOW.out,hcz,HU.out,hB2⟩
  ·
   have hu:U (zs ++ [1]) = U xs + U ys:=by rw [U_one_more,HZL.out]; have:=HXU.out; omega
   have HU:=qz hu;have ho3:=HOW.out.below ((Below.refl _ w2).alloc (Nat.le_refl _) (.cells #[.int .u32 1] 86));have HO3:Hid (World.ownsRow (w2.alloc (.cells #[.int .u32 1] 86)) B 86 1 (.slice (some ⟨g,0,none⟩) n' c') zs.length (u32s zs)):=qz (by rw [HZL.out]; exact ho3)
   have HR1:Hid (Ra (w2.alloc (.cells #[.int .u32 1] 86)) (w2.heap.size + 1) (some ⟨w2.heap.size,0,none⟩) [1]):=qz (by simpa using Ra.one w2 1 86);clear hu hzU ho3
   go_wp2_with (at_builtin; go_loud (refine wpList_append_u32s _ rfl (.tmp 23) (.tmp 25) 44 rfl B 86 Tryz.underlying44 info_u32 (.slice (some ⟨g,0,none⟩) n' c') zs rfl HO3.out (w2.heap.size + 1) (some ⟨w2.heap.size,0,none⟩) 1 [1] _ rfl rfl HR1.out (by have:=HZL.out; simp; omega) (by simp; omega) ?_); intro A4 n4 c4 w4 hl4 hc4 hown4 hg4);go_ret
   exact ⟨_,zs ++ [1],rfl,by rw [hl4.out]; exact hown4.out,Cn.one_more hzd,HU.out,(hB2.alloc (by omega) _).grown hg4 (by simp; omega) (by intro k hk; simp [Value.ownBlock] at hk; omega)⟩
 ·
  rcases hrow with ⟨rfl,rfl,rfl,rfl⟩ | ⟨g,rfl⟩
  ·
   obtain rfl:n2 = 0:=by omega
   have hys:ys = []:=List.eq_nil_of_length_eq_zero HL2.out;have HYS:=qz hys;clear hys;go_enter Tryz.func97,Tryz.ntmps97;go_wp2_with fail;refine (addInto_nil c2 A2 w).mono ?_;rintro e w2 ⟨rfl,rfl⟩;go_wp2_with fail;go_ret;exact ⟨_,[],rfl,Ow.nil _ _,Cn.nil,by rw [HYS.out]; rfl,Below.refl _ _⟩
  obtain ⟨n',hn'⟩:∃ n',n' = n:=⟨_,rfl⟩
  obtain ⟨c',hc'⟩:∃ c',c' = c:=⟨_,rfl⟩
  obtain ⟨xs',hxs'⟩:∃ xs',xs' = xs:=⟨_,rfl⟩
  obtain ⟨w1,hw1⟩:∃ w1,w1 = w:=⟨_,rfl⟩
  subst hn' hc' hxs' hw1;have how1:=HO.out;have hB1:Below B w1 w1:=Below.refl _ _;have hc1:=hc;have HD':Hid (Dg xs'):=qz HX.out.1;have HXU:Hid (U xs' = U xs'):=qz rfl;have HGE:Hid (xs'≠[]->4294967296 ^ (n' - 1)<=U xs' + U ys):=qz (fun h => by have:=U_ge HX.out h; rw [HL.out] at this; omega);have hn2':n2<=n':=by omega
  go_enter Tryz.func97,Tryz.ntmps97;go_wp2_with fail;clear HO;have hlen':xs'.length = n':=how1.len;obtain ⟨R,hw,hBg,hcap,hmax⟩:=how1.win;have hgl:=hw.lt;have HLN:=qz hlen';clear hlen' how1;refine (addInto_any g 0 [] R xs' ys n' c' n2 c2 A2 w1 HLN.out HL2.out rfl hw ((hr2.below hB1 (Nat.le_refl _)).more hBg) HD'.out HY.out.1 (by omega) hn2' hc1).mono ?_
  rintro e w2 ⟨ov,zs,rfl,hzl,hzd,hzU,hov,hwin,hgr⟩;have hB2:Below B w1 w2:=hB1.trans (wrote_below hgr hBg hgl);have hBs:=hB2.size;have how2:Ow w2 B (.slice (some ⟨g,0,none⟩) n' c') n' zs:=Ow.of_win hwin hzl hBg hcap hmax;have HOW:=qz how2;have HZL:=qz hzl;have HCAP:=qz hcap;clear how2 hzl hw hcap hwin;rcases (show ov = 0\/ov = 1 by omega) with rfl | rfl
  ·
   have hu:U zs = U xs' + U ys:=by have:=HXU.out; omega
   have hcz:Cn zs:=Cn.of_ge hzd (fun hne => by rw [HZL.out,hu]; refine HGE.out (fun h => ?_); have h1:=HLN.out; rw [h] at h1; have h2:=List.length_pos_iff.2 hne; have:=HZL.out; simp at h1; omega);have HU:=qz hu;clear hu hzU;go_wp2_with fail;go_ret;exact ⟨_,zs,rfl,by rw [HZL.out]; exact HOW.out,hcz,HU.out,hB2⟩
  ·
   have hu:U (zs ++ [1]) = U xs' + U ys:=by rw [U_one_more,HZL.out]; have:=HXU.out; omega
   have HU:=qz hu;have ho3:=HOW.out.below ((Below.refl _ w2).alloc (Nat.le_refl _) (.cells #[.int .u32 1] 86));have HO3:Hid (World.ownsRow (w2.alloc (.cells #[.int .u32 1] 86)) B 86 1 (.slice (some ⟨g,0,none⟩) n' c') zs.length (u32s zs)):=qz (by rw [HZL.out]; exact ho3)
   have HR1:Hid (Ra (w2.alloc (.cells #[.int .u32 1] 86)) (w2.heap.size + 1) (some ⟨w2.heap.size,0,none⟩) [1]):=qz (by simpa using Ra.one w2 1 86);clear hu hzU ho3
   go_wp2_with (at_builtin; go_loud (refine wpList_append_u32s _ rfl (.tmp 23) (.tmp 25) 44 rfl B 86 Tryz.underlying44 info_u32 (.slice (some ⟨g,0,none⟩) n' c') zs rfl HO3.out (w2.heap.size + 1) (some ⟨w2.heap.size,0,none⟩) 1 [1] _ rfl rfl HR1.out (by have:=HZL.out; simp; omega) (by simp; omega) ?_); intro A4 n4 c4 w4 hl4 hc4 hown4 hg4);go_ret
   exact ⟨_,zs ++ [1],rfl,by rw [hl4.out]; exact hown4.out,Cn.one_more hzd,HU.out,(hB2.alloc (by omega) _).grown hg4 (by simp; omega) (by intro k hk; simp [Value.ownBlock] at hk; omega)⟩
end
section
open Go.RowKit Go.Shelf
set_option maxRecDepth 100000
attribute [local go_sem] Oper.semAt_some
theorem Same.of_written {S:Addr->Prop} {W W':World} {row:Option Nat} (hg:W.grownBy W' row) (hS:∀ p,S p->some p.block≠row):Same S W W' :=
 ⟨hg.size,fun p _ hp hv => hg.cell hv (hS p hp)⟩
theorem KeepsOthers.of_below {W W':World} (h:Below W.heap.size W W'):KeepsOthers W W':=⟨h.size,fun k _ hk _ => (h.block k (Array.getElem?_eq_some_iff.1 hk).1).trans hk⟩
section
variable {P:Program} (w:World)
end
end
section
open Go.RowKit
set_option maxRecDepth 100000
theorem held_set1 {wb W:World} {p:Addr} {u x:Value} {g:Nat} (hg:wb.heap.size<=g) (hp:p.block < wb.heap.size) (h:W.cell? p = some u/\Below wb.heap.size wb W) :
  (W.setCell ⟨g,0,none⟩ x).cell? p = some u/\Below wb.heap.size wb (W.setCell ⟨g,0,none⟩ x) :=
 ⟨(World.cell?_setCell_other W _ _ _ (fun e => by rw [<- e] at hp; simp at hp; omega)).trans h.1,h.2.setCell hg _⟩
theorem b1 (w:World) (o:Obj):Below w.heap.size w (w.alloc o):=(Below.refl _ _).alloc (Nat.le_refl _) _
theorem b2 (w:World) (a b:Obj):Below w.heap.size w ((w.alloc a).alloc b):=((Below.refl _ _).alloc (Nat.le_refl _) _).alloc (by simp) _
theorem snd_of {wb W:World} {p:Addr} {u:Value} (h:W.cell? p = some u/\Below wb.heap.size wb W):Below wb.heap.size wb W:=h.2
theorem U_set (ds:List Nat) (j r:Nat) (hj:j < ds.length):U (ds.set j r) + 4294967296 ^ j * nth ds j = U ds + 4294967296 ^ j * r:=by
 induction ds generalizing j with
 | nil => simp at hj
 | cons d t ih =>
  cases j with
  | zero => simp [List.set,U,nth]; omega
  | succ j =>
   have:=ih j (by simpa using hj);simp only [List.set,U,nth_cons,Nat.pow_succ];generalize U (t.set j r) = a at *
   generalize 4294967296 ^ j = P at *
   grind
def MOut (xs ys:List Nat) (n2 N i:Nat) (ds:List Nat):Prop:=ds.length = N/\Dg ds/\U ds = U (xs.take i) * U ys/\∀ j,i + n2<=j->nth ds j = 0
def MIn (xs ys:List Nat) (n2 N i k o:Nat) (ds:List Nat):Prop :=
 ds.length = N/\Dg ds/\U ds + 4294967296 ^ (i + k) * o = U (xs.take i) * U ys + 4294967296 ^ i * nth xs i * U (ys.take k)/\(∀ j,i + n2<=j->nth ds j = 0)/\o < 4294967296
theorem MOut.start {xs ys ds:List Nat} {n2 N i:Nat} (h:MOut xs ys n2 N i ds):MIn xs ys n2 N i 0 0 ds:=by
 obtain ⟨h1,h2,h3,h4⟩:=h;exact ⟨h1,h2,by simp [U,h3],h4,by omega⟩
theorem MIn.step {xs ys ds:List Nat} {n2 N i k o X:Nat} (h:MIn xs ys n2 N i k o ds) (hX:o + (nth xs i * nth ys k + nth ds (i + k)) = X) (hk:k < n2) (hj:i + k < N) (hXb:X / 4294967296 < 4294967296) :
  MIn xs ys n2 N i (k + 1) (X / 4294967296) (ds.set (i + k) (X % 4294967296)):=by
 obtain ⟨hl,hd,hv,hz,ho⟩:=h;refine ⟨by simp [hl],hd.set (by omega),?_,fun j h1 => ?_,hXb⟩
 ·
  have h1:=U_set ds (i + k) (X % 4294967296) (by omega);rw [U_take_succ];have h2:=Nat.div_add_mod X 4294967296;rw [show i + (k + 1) = (i + k) + 1 by omega,Nat.pow_succ];rw [Nat.pow_add] at *
  generalize X / 4294967296 = q at *
  generalize X % 4294967296 = r at *
  generalize U (ds.set (i + k) r) = v' at *
  generalize 4294967296 ^ i = P at *
  generalize 4294967296 ^ k = R at *
  have e:P * R * (o + (nth xs i * nth ys k + nth ds (i + k))) = P * R * (4294967296 * q + r):=by rw [hX,h2]
  grind
 ·
  rw [nth_set32 (by omega),if_neg (by omega)];exact hz j h1
theorem MIn.done {xs ys ds:List Nat} {n2 N i o:Nat} (h:MIn xs ys n2 N i n2 o ds) (hy:ys.length = n2) (hj:i + n2 < N):MOut xs ys n2 N (i + 1) (ds.set (i + n2) o):=by
 obtain ⟨hl,hd,hv,hz,ho⟩:=h;refine ⟨by simp [hl],hd.set ho,?_,fun j h1 => ?_⟩
 ·
  have h1:=U_set ds (i + n2) o (by omega);have h2:=hz (i + n2) (Nat.le_refl _);rw [U_take_all ys _ (by omega)] at hv;rw [U_take_succ];rw [h2] at h1;generalize 4294967296 ^ (i + n2) = Q at *
  generalize 4294967296 ^ i = P at *
  grind
 ·
  rw [nth_set32 (by omega),if_neg (by omega)];exact hz j (by omega)
theorem mul_prod32 {a b:Nat} (ha:a < 4294967296) (hb:b < 4294967296):a * b<=18446744065119617025:=Nat.mul_le_mul (show a<=4294967295 by omega) (show b<=4294967295 by omega)
theorem zeros_dg (N:Nat):Dg (List.replicate N 0):=fun d hd => by
 have:=(List.mem_replicate.1 hd).2;omega
theorem zeros_U (N:Nat):U (List.replicate N 0) = 0:=by
 induction N with
 | zero => rfl
 | succ n ih => rw [List.replicate_succ,U,ih]
theorem madeCells_u32s (N:Nat):(madeCells (Value.int .u32 0).cells (N * 1)).toList = u32s (List.replicate N 0):=by
 have e:(madeCells (Value.int .u32 0).cells (N * 1)).toList = (List.range N).map fun x => [Value.int IntKind.u32 0][x % 1]?.getD default:=by simp [madeCells,Value.cells]
 rw [e];simp only [u32s,List.map_replicate];apply List.ext_getElem
 · simp
 ·
  intro i h1 h2;simp [Nat.mod_one]
theorem mulTwo_any (A1 A2:Option Addr) (xs ys:List Nat) (n1 c1 n2 c2:Nat) (w:World) (hl1:xs.length = n1) (hl2:ys.length = n2) (hr1:Ra w w.heap.size A1 xs) (hr2:Ra w w.heap.size A2 ys)
  (hd1:Dg xs) (hd2:Dg ys) (hn1:n1<=100000) (hn2:n2<=100000) :
  Calls Tryz.prog 65 #[.slice A1 n1 c1,.slice A2 n2 c2] w (RetNv w (U xs * U ys)):=by
 have HL1:=qz hl1;have HL2:=qz hl2;clear hl1 hl2;obtain ⟨N,hN⟩:=exq (n1 + n2);have HN:=qz hN;have hNb:N<=200000:=by omega
 have hNi:(n1:Int) + (n2:Int) = (N:Int):=by omega
 clear hN;obtain ⟨i0,hi0,hz0,hz1,hz2⟩:=info_parts info_u32;go_enter Tryz.func65,Tryz.ntmps65
 go_wp2_with ((with_reducible refine wpList_make_full _ rfl (.tmp 15) (.tmp 15) 44 rfl w.heap.size 86 i0 (.int .u32 0) 1 Tryz.underlying44 hi0 hz0 hz1 .i64 .i64 _ _ N rfl rfl (by have:=HN.out; omega) (by have:=HN.out; omega) (by rw [hz2]; omega) (by unfold maxLen; omega) (by simp) ?_); intro w1 hown1 hg1)
 have hm0:Win w1 w.heap.size 86 [] (List.replicate N 0) []:=by
  rcases hown1.2 with ⟨h,_⟩ | ⟨g,cap,c,hv,_,hh,_,_,hsz,ht⟩
  · injection h with h; cases h
  ·
   injection hv with hv _ hcap
   injection hv with hv
   injection hv with hv
   subst hv hcap;unfold Win Blk;rw [hh]
   have:c = (u32s (List.replicate N 0)).toArray:=by
    rw [<- madeCells_u32s N,<- ht,List.take_of_length_le (by simp; omega)]
   rw [this]; simp
 have hb0:Below w.heap.size w w1:=(Below.refl _ _).grown hg1 (Nat.le_refl _) (by intro k hk; cases hk);have HM0:=qz hm0;have HB0:=qz hb0;clear hown1 hg1 hm0 hb0 hz0 hz1 hz2
 go_loopw [19] (fun i wr => ∃ (k:Nat) (ds:List Nat),i = .int .i64 (k:Int)/\k<=n1/\MOut xs ys n2 N k ds/\Win wr w.heap.size 86 [] ds []/\Below w.heap.size w wr) (fun i _ => n1 - (intOf i).toNat)
 case atStart => exact ⟨0,List.replicate N 0,rfl,by omega,⟨by simp,zeros_dg N,by rw [zeros_U]; simp [U],fun j _ => zeros_nth N j⟩,HM0.out,HB0.out⟩
 case round =>
  obtain ⟨i,ds,rfl,hi,ho,hw,hB⟩:=hrel;clear HM0 HB0;have HO:=qz ho;have HW:=qz hw;clear ho hw;by_cases hti:i < n1
  ·
   obtain ⟨b1,o1,hA1,hb1,cx⟩:=(hr1.below hB (Nat.le_refl _)).at_ (k:=i) (by have:=HL1.out; omega);subst hA1;have hst:=qz HO.out.start;have hxi:=hd1.nth i;go_wp2_with fail
   go_loopw [8,26] (fun o k wr => ∃ (kk oo:Nat) (ds:List Nat),k = .int .i64 (kk:Int)/\o = .int .u64 (oo:Int)/\kk<=n2/\MIn xs ys n2 N i kk oo ds/\Win wr w.heap.size 86 [] ds []/\Below w.heap.size w wr) (fun _ k _ => n2 - (intOf k).toNat)
   case atStart => exact ⟨0,0,ds,rfl,rfl,by omega,hst.out,HW.out,hB⟩
   case round =>
    clear hst HO HW hB cx;obtain ⟨k,o,ds,rfl,rfl,hk,hin,hw,hB⟩:=hrel;have HIN:=qz hin;have ho:=hin.2.2.2.2;have hdl:=qz hin.1;have hdd:=hin.2.1.nth (i + k);have HZ:Hid (nth ds (i + n2) = 0):=qz (hin.2.2.2.1 _ (Nat.le_refl _));clear hin;by_cases ht:k < n2
    ·
     have cd:=hw.cell (o:=0) rfl (k:=i + k) (by have:=hdl.out; have:=HN.out; omega);rw [Nat.zero_add] at cd;have fd:=hw.frozen (i + k);obtain ⟨b2,o2,hA2,hb2,cy⟩:=(hr2.below hB (Nat.le_refl _)).at_ (k:=k) (by have:=HL2.out; omega);subst hA2;have hyk:=hd2.nth k;have hpr:=mul_prod32 hxi hyk;obtain ⟨X,hX⟩:=exq (o + (nth xs i * nth ys k + nth ds (i + k)))
     have hXb:X < 18446744073709551616:=by omega
     have hXi:(o:Int) + ((nth xs i:Int) * (nth ys k:Int) + (nth ds (i + k):Int)) = (X:Int):=by rw [<- hX]; simp
     have hst:=qz (HIN.out.step hX ht (by have:=HN.out; omega) (by omega));have hp2:(nth xs i:Int) * (nth ys k:Int) = ((nth xs i * nth ys k:Nat):Int):=by simp
     have hpi:(nth xs i:Int) * (nth ys k:Int)<=18446744065119617025:=by omega
     have hpi0:0<=(nth xs i:Int) * (nth ys k:Int):=by omega
     have hik:(i:Int) + (k:Int) < (N:Int):=by have:=HN.out; omega
     have hikn:((i:Int) + (k:Int)).toNat = i + k:=by omega
     clear hX hp2;go_wp2_with fail;go_roundw
     case rel => exact ⟨k + 1,X / 4294967296,ds.set (i + k) (X % 4294967296),by go_num,by go_num,by omega,hst.out,by have:=hw.put (o:=0) rfl (k:=i + k) (d:=X % 4294967296) (u:=(X:Int) % 4294967296) (by have:=hdl.out; have:=HN.out; omega) (by omega); rwa [Nat.zero_add] at this,hB.setCell (by simp) _⟩
     case measure => simp [intOf]; omega
    ·
     obtain rfl:k = n2:=by omega
     have cd:=hw.cell (o:=0) rfl (k:=i + k) (by have:=hdl.out; have:=HN.out; omega);rw [Nat.zero_add] at cd;have fd:=hw.frozen (i + k);have hik:(i:Int) + (k:Int) < (N:Int):=by have:=HN.out; omega
     have hikn:((i:Int) + (k:Int)).toNat = i + k:=by omega
     have hdn:=qz (HIN.out.done HL2.out (by have:=HN.out; omega));go_wp2_with fail;go_roundw
     case rel => exact ⟨i + 1,ds.set (i + k) o,by go_num,by omega,hdn.out,by have:=hw.put (o:=0) rfl (k:=i + k) (d:=o) (u:=(o:Int)) (by have:=hdl.out; have:=HN.out; omega) rfl; rwa [Nat.zero_add] at this,hB.setCell (by simp) _⟩
     case measure => simp [intOf]; omega
  ·
   obtain rfl:i = n1:=by omega
   obtain ⟨hdl,hdd,hU,_⟩:=HO.out;have hr:=HW.out.reads (o:=0) rfl;have HU:Hid (U ds = U xs * U ys):=qz (by rw [hU,U_take_all xs _ (by have:=HL1.out; omega)]);have HDL:=qz hdl;clear hU hdl;go_wp2_with fail;refine (shorten_any _ ds N N _ HDL.out hr hdd (by omega) (Nat.le_refl _)).mono ?_;rintro e w2 ⟨m,hm,rfl,hcan,hU2,rfl⟩;have HC:=qz hcan
   have HU2:=qz (hU2.trans HU.out);clear hcan hU2;go_wp2_with fail;go_ret;exact ⟨_,rfl,⟨_,ds.take m,m,N,rfl,by have:=HDL.out; simp; omega,hm,hr.take m,fun _ => ⟨_,_,rfl,Nat.le_refl _⟩,HC.out,HU2.out⟩,hB⟩
end
end Go.Proofs.YtkdmnlihpebbkaaGreat
