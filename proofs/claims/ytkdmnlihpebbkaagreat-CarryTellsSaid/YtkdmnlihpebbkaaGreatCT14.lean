import Derived.Test.YtkdmnlihpebbkaaGreatCT13
import Derived.RegionTactic
import Derived.Test.YtkdmnlihpebbkaaGreatRows
import Derived.Below
import Derived.OpenShut
import Derived.Carry
import Derived.Lib.SmallJoins
import Derived.Deep.DeepHandedRow
import Derived.Lib.LaidTab
import Derived.Deep.SlicePairs
set_option linter.all false
set_option maxHeartbeats 8000000
namespace Go.Proofs.YtkdmnlihpebbkaaGreat
section
open Go.RowKit
set_option maxRecDepth 100000
def halves2:List Nat->List Nat
 | [] => []
 | d :: r => (d % 65536) :: (d / 65536) :: halves2 r
theorem halves2_dig {xs:List Nat} (h:Dg xs):Dig (halves2 xs):=by
 induction xs with
 | nil => exact Dig.nil
 | cons d r ih =>
  have hd:=h d (by simp);have hr:=ih h.tail;intro x hx;simp only [halves2,List.mem_cons] at hx;rcases hx with rfl | rfl | hx
  · omega
  · omega
  · exact hr x hx
def join2:List Nat->List Nat
 | [] => []
 | [d] => [d]
 | d :: e :: r => (d + 65536 * e) :: join2 r
theorem join2_U:∀ xs:List Nat,U (join2 xs) = V xs
 | [] => rfl
 | [d] => by simp [join2,U,V]
 | d :: e :: r => by simp only [join2,U,V,join2_U r]; omega
theorem join2_len:∀ xs:List Nat,(join2 xs).length = (xs.length + 1) / 2
 | [] => rfl
 | [d] => by simp [join2]
 | d :: e :: r => by simp only [join2,List.length_cons,join2_len r]; omega
theorem join2_dg:∀ {xs:List Nat},Dig xs->Dg (join2 xs)
 | [],_ => Dg.nil
 | [d],h => fun x hx => by have:=h d (by simp); simp [join2] at hx; omega
 | d :: e :: r,h => fun x hx => by
  have h1:=h d (by simp);have h2:=h e (by simp);simp only [join2,List.mem_cons] at hx;rcases hx with rfl | hx
  · omega
  · exact join2_dg (xs:=r) h.tail.tail x hx
theorem join2_nth:∀ (xs:List Nat) (k:Nat),nth (join2 xs) k = nth xs (2 * k) + 65536 * nth xs (2 * k + 1)
 | [],k => by rw [join2,nth_out (by simp),nth_out (by simp),nth_out (by simp)]
 | [d],0 => by rw [join2,nth_out (xs:=[d]) (i:=2 * 0 + 1) (by simp)]; rfl
 | [d],k + 1 => by rw [join2,nth_out (by simp),nth_out (by simp; omega),nth_out (by simp)]
 | d :: e :: r,0 => by rw [join2,nth_cons0,nth_cons0,show 2 * 0 + 1 = 0 + 1 from rfl,nth_cons,nth_cons0]
 | d :: e :: r,k + 1 => by
  rw [join2,nth_cons,join2_nth r k,show 2 * (k + 1) = 2 * k + 1 + 1 by omega,nth_cons,nth_cons,nth_cons,nth_cons]
theorem Cn.of_big {zs:List Nat} (h:Dg zs) (hz:zs≠[]->4294967296 ^ (zs.length - 1)<=U zs):Cn zs:=by
 refine ⟨h,fun hne h0 => ?_⟩;have h1:=hz hne;have hlen:=List.length_pos_iff.2 hne;have h2:=U_take_succ zs (zs.length - 1);rw [U_take_all zs _ (by omega),h0] at h2;have h3:=U_lt (h.take (zs.length - 1));rw [show (zs.take (zs.length - 1)).length = zs.length - 1 by simp] at h3;omega
theorem join2_can {xs:List Nat} (h:Can xs):Cn (join2 xs):=Cn.of_big (join2_dg h.1) fun hne => by
 have hx:xs≠[]:=by rintro rfl; exact hne rfl
 have h1:=V_ge h hx;have hl:=List.length_pos_iff.2 hx;rw [join2_U,join2_len,show (4294967296:Nat) = 65536 ^ 2 by decide,<- Nat.pow_mul];have:=Nat.pow_le_pow_right (show 0 < 65536 by omega) (show 2 * ((xs.length + 1) / 2 - 1)<=xs.length - 1 by omega);omega
theorem out_any (A:Option Addr) (xs:List Nat) (n c:Nat) (w:World) (hl:xs.length = n) (hr:Rd w w.heap.size A xs) (hd:Can xs) (hn:n<=1000000) :
  Calls Tryz.prog 37 #[.agg #[.slice A n c]] w (RetNv w (V xs)):=by
 have HL:=qz hl;have HD:=qz hd;obtain ⟨N,hN⟩:=exq ((n + 1) / 2);have HJL:Hid ((join2 xs).length = N):=qz (by rw [join2_len,hl,hN]);have hN1:n<=2 * N:=by omega
 have hN2:2 * N<=n + 1:=by omega
 clear hl hd hN;go_enter Tryz.func37,Tryz.ntmps37;go_wp2_with fail
 go_loopw [3,4] (fun v iv wr => ∃ (k:Nat) (A':Option Addr) (c':Nat),iv = .int .i64 ((2 * k:Nat):Int)/\k<=N/\v = .slice A' k c'/\k<=c'/\Ow wr (w.heap.size + 1) (.slice A' k c') k ((join2 xs).take k)/\Blk wr w.heap.size 33 #[.slice A n c]/\Below w.heap.size w wr)
  (fun _ iv _ => 2 * N - (intOf iv).toNat)
 case atStart => exact ⟨0,none,0,rfl,by omega,rfl,Nat.le_refl _,Ow.nil _ _,Blk.new _ _ _,(Below.refl _ _).alloc (Nat.le_refl _) _⟩
 case round =>
  obtain ⟨k,A',c',rfl,hk,rfl,hc',how,hbk,hB⟩:=hrel;have HOW:=qz how;have HBK:=qz hbk;have cb:=hbk.cell 0;have hBs:=hbk.lt;clear how hbk;by_cases hkn:k < N
  ·
   obtain ⟨b,o,hA,_,cx⟩:=(hr.below hB (Nat.le_refl _)).at_ (k:=2 * k) (by have:=HL.out; omega);subst hA;have hxk:=HD.out.1.nth (2 * k);have hyk:=HD.out.1.nth (2 * k + 1);have hk0:(0:Int)<=((2 * k:Nat):Int):=by omega
   have hk1:((2 * k:Nat):Int) < (n:Int):=by omega
   have hto:(((2 * k:Nat):Int)).toNat = 2 * k:=by omega
   have HST:Hid ((join2 xs).take k ++ [nth xs (2 * k) + 65536 * nth xs (2 * k + 1)] = (join2 xs).take (k + 1)):=qz (by rw [take_snoc _ k (by have:=HJL.out; omega),join2_nth]);have HTL:Hid (((join2 xs).take k).length = k):=qz (by have:=HJL.out; simp; omega);obtain ⟨t,ht⟩:=exq (2 * k);have HT:=qz ht;rw [ht] at cx hxk hyk hk0 hk1 hto HST ⊢;clear ht
   obtain ⟨z,hz⟩:=exq (nth xs t + 65536 * nth xs (t + 1));rw [hz] at HST;have hzb:z < 4294967296:=by omega
   have HO3:Hid (World.ownsRow (wr.alloc (.cells #[.int .u32 (z:Int)] 86)) (w.heap.size + 1) 86 1 (.slice A' k c') ((join2 xs).take k).length (u32s ((join2 xs).take k))):=qz (by rw [HTL.out]; exact HOW.out.below ((Below.refl _ wr).alloc (Nat.le_refl _) _))
   have HR1:Hid (Ra (wr.alloc (.cells #[.int .u32 (z:Int)] 86)) (wr.heap.size + 1) (some ⟨wr.heap.size,0,none⟩) [z]):=qz (Ra.one wr z 86);by_cases hlast:t + 1 < n
   ·
    obtain ⟨b2,o2,hA2,_,cy⟩:=(hr.below hB (Nat.le_refl _)).at_ (k:=t + 1) (by have:=HL.out; omega);injection hA2 with hA2
    injection hA2 with e1 e2
    subst e1 e2;have hzi:(nth xs t:Int) + (nth xs (t + 1):Int) * 65536 = (z:Int):=by omega
    clear hz
    go_wp2_with (at_builtin; go_loud (refine wpList_append_u32s _ rfl (.tmp 35) (.tmp 37) 44 rfl (w.heap.size + 1) 86 Tryz.underlying44 info_u32 (.slice A' k c') ((join2 xs).take k) rfl HO3.out (wr.heap.size + 1) (some ⟨wr.heap.size,0,none⟩) 1 [z] _ rfl rfl HR1.out (by have:=HTL.out; simp; omega) (by simp; omega) ?_); intro A4 n4 c4 w4 hl4 hc4 hown4 hg4)
    rw [HST.out] at hl4 hown4;have hn4:n4 = k + 1:=by have:=hl4.out; have:=HJL.out; simp at *; omega
    subst hn4;have hrow:∀ g,(Value.slice A' k c').ownBlock = some g->w.heap.size + 1<=g:=fun g hg => (World.ownsRow.lt HOW.out g hg).1
    have HB4:=qz (Blk.grown (HBK.out.alloc _) hg4 (fun e => by have:=hrow _ e.symm; omega));have hB4:=(hB.alloc (by omega) _).grown hg4 (by simp; omega) (fun g hg => by have:=hrow g hg; omega);clear HO3 HR1 hl4 hg4;go_roundw
    case rel => exact ⟨k + 1,A4,c4,by rw [show ((2 * (k + 1):Nat):Int) = (t:Int) + 2 by have:=HT.out; omega],by omega,rfl,hc4,hown4.out,HB4.out,hB4⟩
    case measure => simp [intOf]; have:=HT.out; omega
   ·
    have hz0:nth xs (t + 1) = 0:=nth_out (by have:=HL.out; omega);obtain rfl:nth xs t = z:=by omega
    clear hz hz0
    go_wp2_with (at_builtin; go_loud (refine wpList_append_u32s _ rfl (.tmp 35) (.tmp 37) 44 rfl (w.heap.size + 1) 86 Tryz.underlying44 info_u32 (.slice A' k c') ((join2 xs).take k) rfl HO3.out (wr.heap.size + 1) (some ⟨wr.heap.size,0,none⟩) 1 [nth xs t] _ rfl rfl HR1.out (by have:=HTL.out; simp; omega) (by simp; omega) ?_); intro A4 n4 c4 w4 hl4 hc4 hown4 hg4)
    rw [HST.out] at hl4 hown4;have hn4:n4 = k + 1:=by have:=hl4.out; have:=HJL.out; simp at *; omega
    subst hn4;have hrow:∀ g,(Value.slice A' k c').ownBlock = some g->w.heap.size + 1<=g:=fun g hg => (World.ownsRow.lt HOW.out g hg).1
    have HB4:=qz (Blk.grown (HBK.out.alloc _) hg4 (fun e => by have:=hrow _ e.symm; omega));have hB4:=(hB.alloc (by omega) _).grown hg4 (by simp; omega) (fun g hg => by have:=hrow g hg; omega);clear HO3 HR1 hl4 hg4;go_roundw
    case rel => exact ⟨k + 1,A4,c4,by rw [show ((2 * (k + 1):Nat):Int) = (t:Int) + 2 by have:=HT.out; omega],by omega,rfl,hc4,hown4.out,HB4.out,hB4⟩
    case measure => simp [intOf]; have:=HT.out; omega
  ·
   obtain rfl:k = N:=by omega
   have hf:(join2 xs).take k = join2 xs:=List.take_of_length_le (by have:=HJL.out; omega);have HF:=qz hf;have hend:¬ ((2 * k:Nat):Int) < (n:Int):=by omega
   clear hf;go_wp2_with fail;go_ret;have h1:=HOW.out;rw [HF.out] at h1;have h2:=(h1.nv hc' (join2_can HD.out)).more (Nat.le_succ w.heap.size);rw [join2_U] at h2;exact ⟨_,rfl,h2,hB⟩
theorem same_any (A1 A2:Option Addr) (xs ys:List Nat) (n1 c1 n2 c2:Nat) (w:World) (hl1:xs.length = n1) (hl2:ys.length = n2) (hr1:Ra w w.heap.size A1 xs) (hr2:Ra w w.heap.size A2 ys) (hn:n1<=1000000) :
  Calls Tryz.prog 36 #[.slice A1 n1 c1,.slice A2 n2 c2] w fun e w' => e = .returned (.bool (decide (xs = ys)))/\Below w.heap.size w w':=by
 have HL1:=qz hl1;have HL2:=qz hl2;obtain ⟨z,hz⟩:=exq (decide (xs = ys));rw [hz];have HZ:=qz hz;clear hl1 hl2 hz;by_cases hlen:n1 = n2
 ·
  subst hlen;go_enter Tryz.func36,Tryz.ntmps36;go_wp2_with fail;go_loopw [5] (fun iv wr => ∃ k:Nat,iv = .int .i64 (k:Int)/\k<=n1/\(∀ j,j < k->nth xs j = nth ys j)/\Below w.heap.size w wr) (fun iv _ => n1 - (intOf iv).toNat)
  case atStart => exact ⟨0,rfl,by omega,fun j hj => by omega,Below.refl _ _⟩
  case round =>
   obtain ⟨k,rfl,hk,heq,hB⟩:=hrel;have HE:=qz heq;clear heq;by_cases hkn:k < n1
   ·
    obtain ⟨b1,o1,hA1,_,cx⟩:=(hr1.below hB (Nat.le_refl _)).at_ (k:=k) (by have:=HL1.out; omega);obtain ⟨b2,o2,hA2,_,cy⟩:=(hr2.below hB (Nat.le_refl _)).at_ (k:=k) (by have:=HL2.out; omega);subst hA1 hA2;have hk0:(0:Int)<=(k:Int):=by omega
    have hk1:(k:Int) < (n1:Int):=by omega
    by_cases hne:nth xs k = nth ys k
    ·
     have h1:(((nth xs k:Nat):Int) != ((nth ys k:Nat):Int)) = false:=by simp [hne]
     have HN:=qz hne;clear hne;go_wp2_with fail
     go_quiet (fail)
     go_wp2_with fail;go_roundw
     case rel => exact ⟨k + 1,by go_num,by omega,fun j hj => by
      rcases Nat.lt_or_ge j k with h | h
      · exact HE.out j h
      · rw [show j = k by omega]; exact HN.out,hB.trans ((below_drewN _).mono hB.size)⟩
     case measure => simp [intOf]; omega
    ·
     have h1:(((nth xs k:Nat):Int) != ((nth ys k:Nat):Int)) = true:=by simp; omega
     obtain rfl:z = false:=by
      rw [<- HZ.out];exact decide_eq_false (fun e => hne (by rw [e]))
     clear hne;go_wp2_with fail
     go_quiet (fail)
     go_wp2_with fail;go_ret;exact ⟨rfl,hB.trans ((below_drewN _).mono hB.size)⟩
   ·
    obtain rfl:k = n1:=by omega
    obtain rfl:z = true:=by
     rw [<- HZ.out];refine decide_eq_true (List.ext_getElem (by rw [HL1.out,HL2.out]) fun i h1 h2 => ?_);have:=HE.out i (by have:=HL1.out; omega)
     rwa [nth_in h1,nth_in h2] at this
    go_wp2_with fail;go_ret;exact ⟨rfl,hB⟩
 ·
  obtain rfl:z = false:=by
   rw [<- HZ.out];exact decide_eq_false (fun e => hlen (by rw [<- HL1.out,<- HL2.out,e]))
  go_enter Tryz.func36,Tryz.ntmps36;go_wp2_with fail;go_ret;exact ⟨rfl,Below.refl _ _⟩
theorem IsBits.zero_iff {a b:Nat} (h:IsBits a b):b = 0↔a = 0:=by
 obtain ⟨h1,h2⟩:=h;constructor
 · rintro rfl; simp at h1; omega
 ·
  rintro rfl;rcases h2 with h2 | h2
  · exact h2
  ·
   have:0 < 2 ^ (b - 1):=Nat.pow_pos (by omega);omega
theorem isZero_r {v:Value} {a M:Nat} (z:Bool) (w:World) (h:Nr w v a M) (hM:M<=100000) (hz:decide (a = 0) = z):Calls Tryz.prog 156 #[v] w fun e w' => e = .returned (.bool z)/\w = w':=by
 obtain ⟨A,xs,n,c,rfl,hl,hc,hr,hd,rfl,hn⟩:=h;have hb:=natBits_any A xs n c w hl hr hd (by omega) hc;go_enter Tryz.func156,Tryz.ntmps156;go_wp2_with fail;refine hb.mono ?_;rintro e w' ⟨b,rfl,hbits,rfl⟩
 have hzb:((b:Int) == 0) = z:=by
  rw [<- hz];have:=hbits.zero_iff;rw [Bool.eq_iff_iff]; simp; omega
 clear hl hr hd hz hbits hb;go_wp2_with fail;go_ret;exact ⟨rfl,rfl⟩
theorem quot_r {v1 v2:Value} {a b M1 M2:Nat} (w:World) (h1:Nr w v1 a M1) (h2:Nr w v2 b M2) (hM1:M1<=100000) (hM2:M2<=100000):Calls Tryz.prog 96 #[v1,v2] w (RetNv w (a / b)):=by
 obtain ⟨A1,n1,c1,rfl⟩:=h1.shape;obtain ⟨A2,n2,c2,rfl⟩:=h2.shape;have H1:=qz h1;have H2:=qz h2;clear h1 h2;rcases Nat.eq_zero_or_pos b with rfl | hb
 ·
  go_enter Tryz.func96,Tryz.ntmps96;go_wp2_with fail;refine (div_z w H1.out H2.out hM1 hM2).mono ?_;rintro e w1 ⟨rfl,rfl⟩;go_wp2_with fail;go_ret;exact ⟨_,rfl,by rw [Nat.div_zero]; exact nv_zero_nil _ _,Below.refl _ _⟩
 ·
  go_enter Tryz.func96,Tryz.ntmps96;go_wp2_with fail;refine (div_r w H1.out H2.out hM1 hM2 hb).mono ?_;rintro e w1 ⟨v1,v2,rfl,hv1,hv2,hb1⟩;obtain ⟨B1,j1,e1,rfl⟩:=hv1.shape;obtain ⟨B2,j2,e2,rfl⟩:=hv2.shape;have HV1:=qz hv1;clear hv1 hv2;go_wp2_with fail;go_ret;exact ⟨_,rfl,HV1.out,hb1⟩
theorem gcd_small {a b K:Nat} (ha:a < K) (hb:b < K):Nat.gcd a b < K:=by
 rcases Nat.eq_zero_or_pos b with h | h
 · subst h; rw [Nat.gcd_zero_right]; exact ha
 · exact Nat.lt_of_le_of_lt (Nat.le_of_dvd h (Nat.gcd_dvd_right a b)) hb
def SharesRet (w:World) (a b:Nat) (e:Ending) (w':World):Prop:=∃ A1 n1 c1 A2 n2 c2 A3 n3 c3,e = .returned (.tuple #[.slice A1 n1 c1,.slice A2 n2 c2,.slice A3 n3 c3]) /\
 Nv w' w.heap.size (.slice A1 n1 c1) (Nat.gcd a b)/\Nv w' w.heap.size (.slice A2 n2 c2) (a / Nat.gcd a b)/\Nv w' w.heap.size (.slice A3 n3 c3) (b / Nat.gcd a b)/\Below w.heap.size w w'
theorem shares_r {v1 v2:Value} {a b M:Nat} (w:World) (h1:Nr w v1 a M) (h2:Nr w v2 b M) (hM:M<=100000):Calls Tryz.prog 78 #[v1,v2] w (SharesRet w a b):=by
 have hgM:Nat.gcd a b < 4294967296 ^ M:=gcd_small h1.lt h2.lt;have hgcd:=gcd_r w h1 h2 hM;obtain ⟨A1,n1,c1,rfl⟩:=h1.shape;obtain ⟨A2,n2,c2,rfl⟩:=h2.shape;have H1:=qz h1;have H2:=qz h2;have HG:=qz hgM;clear h1 h2 hgM;go_enter Tryz.func78,Tryz.ntmps78;go_wp2_with fail;refine hgcd.mono ?_;rintro e w1 ⟨v,rfl,hnv,hb1⟩;obtain ⟨A3,n3,c3,rfl⟩:=hnv.shape
 have HV:=qz hnv;clear hnv;go_wp2_with fail;refine (quot_r w1 (H1.out.below hb1) (HV.out.nr HG.out) hM hM).mono ?_;rintro e w2 ⟨v5,rfl,hv5,hb2⟩;obtain ⟨B1,j1,e1,rfl⟩:=hv5.shape;have HV2:=qz (HV.out.below hb2);have HQ:=qz (hv5.more hb1.size);have hB2:=hb1.trans (hb2.mono hb1.size);clear hv5;go_wp2_with fail
 refine (quot_r w2 (H2.out.below hB2) (HV2.out.nr HG.out) hM hM).mono ?_;rintro e w3 ⟨v6,rfl,hv6,hb3⟩;obtain ⟨B2,j2,e2,rfl⟩:=hv6.shape;have HV3:=qz (HV2.out.below hb3);have HQ2:=qz (HQ.out.below hb3);have HR:=qz (hv6.more hB2.size);clear hv6;go_wp2_with fail
 go_ret3
 exact ⟨_,_,_,_,_,_,_,_,_,rfl,HV3.out,HQ2.out,HR.out,hB2.trans (hb3.mono hB2.size)⟩
def RetQ (w:World) (n d:Nat) (e:Ending) (w':World):Prop:=∃ A1 n1 c1 A2 n2 c2,e = .returned (.agg #[.slice A1 n1 c1,.slice A2 n2 c2])/\Nv w' w.heap.size (.slice A1 n1 c1) n/\Nv w' w.heap.size (.slice A2 n2 c2) d/\Below w.heap.size w w'
def RetQt (w:World) (n d:Nat) (e:Ending) (w':World):Prop:=∃ A1 n1 c1 A2 n2 c2,e = .returned (.tuple #[.agg #[.slice A1 n1 c1,.slice A2 n2 c2],.bool true])/\Nv w' w.heap.size (.slice A1 n1 c1) n/\Nv w' w.heap.size (.slice A2 n2 c2) d/\Below w.heap.size w w'
theorem nilbox (w:World):Blk (w.alloc (.cells #[.slice none 0 0,.slice none 0 0] 46)) w.heap.size 46 #[.slice none 0 0,.slice none 0 0]:=Blk.new _ _ _
theorem lt_w2 {n:Nat} (h:n < 18446744073709551616):n < 4294967296 ^ 2:=by
 have:(4294967296:Nat) ^ 2 = 18446744073709551616:=by decide
 omega
theorem put_q {W:World} {g:Nat} {p q:Value} (h:Blk W g 46 #[p,q]) (x y:Value):Blk ((W.setCell ⟨g,0,none⟩ x).setCell ⟨g,1,none⟩ y) g 46 #[x,y]:=by
 have:=(h.set_ 0 x).set_ 1 y;exact this
theorem Nv.put_q {W:World} {L g a:Nat} {v:Value} (h:Nv W L v a) (hg:g < L) (x y:Value):Nv ((W.setCell ⟨g,0,none⟩ x).setCell ⟨g,1,none⟩ y) L v a:=(h.old (p:=⟨g,0,none⟩) hg x).old (p:=⟨g,1,none⟩) hg y
theorem make_r {v1 v2:Value} {a b M:Nat} (w:World) (h1:Nr w v1 a M) (h2:Nr w v2 b M) (hM:M<=100000) (hb0:0 < b):Calls Tryz.prog 151 #[v1,v2] w (RetQt w (a / Nat.gcd a b) (b / Nat.gcd a b)):=by
 have hb:=b1 w (.cells #[.slice none 0 0,.slice none 0 0] 46);have hz:=isZero_r false _ (h2.below hb) hM (by simp; omega);have hs:=shares_r _ (h1.below hb) (h2.below hb) hM;obtain ⟨A1,n1,c1,rfl⟩:=h1.shape;obtain ⟨A2,n2,c2,rfl⟩:=h2.shape;obtain ⟨W0,hW0⟩:=exq (w.alloc (.cells #[.slice none 0 0,.slice none 0 0] 46));have hbk:=nilbox w;rw [hW0] at hb hz hs hbk
 clear h1 h2;go_enter Tryz.func151,Tryz.ntmps151;go_wp2_with fail;refine hz.mono ?_;rintro e w1 ⟨rfl,rfl⟩;go_wp2_with fail;refine hs.mono ?_;rintro e w2 ⟨B1,i1,e1,B2,i2,e2,B3,i3,e3,rfl,hg,hx,hy,hb2⟩;have hbk2:=hbk.below hb2 hbk.lt;have k0:=hbk2.cell 0;have k1:=hbk2.cell 1;have f0:=hbk2.frozen 0;have f1:=hbk2.frozen 1;have hl:=hbk.lt
 have hB2:=hb.trans (hb2.mono hb.size);have HX:=qz hx;have HY:=qz hy;have HBK:=qz hbk2;clear hg hx hy hbk hbk2 hs hz hW0;go_wp2_with fail;have hp:=put_q HBK.out (.slice B2 i2 e2) (.slice B3 i3 e3)
 exact bodyPost_ret (v:=.tuple #[.agg #[.slice B2 i2 e2,.slice B3 i3 e3],.bool true]) (by simp [results,Tryz.results151,go_sem,hp.cell 0,hp.cell 1]) rfl
  ⟨_,_,_,_,_,_,rfl,(HX.out.put_q hl _ _).more (by omega),(HY.out.put_q hl _ _).more (by omega),(hB2.setCell (Nat.le_refl _) _).setCell (Nat.le_refl _) _⟩
theorem ratioOf_r (n d:Nat) (w:World) (hn:n < 18446744073709551616) (hd:d < 18446744073709551616) (hd0:0 < d):Calls Tryz.prog 137 #[.int .u64 (n:Int),.int .u64 (d:Int)] w (RetQt w (n / Nat.gcd n d) (d / Nat.gcd n d)):=by
 have hb:=b1 w (.cells #[.slice none 0 0,.slice none 0 0] 46);obtain ⟨W0,hW0⟩:=exq (w.alloc (.cells #[.slice none 0 0,.slice none 0 0] 46));have hbk:=nilbox w;rw [hW0] at hb hbk;have hl:=hbk.lt;go_enter Tryz.func137,Tryz.ntmps137;go_wp2_with fail;refine (natOf_any n W0 hn).mono ?_;rintro e w1 ⟨v1,rfl,hv1,hb1⟩;obtain ⟨A1,n1,c1,rfl⟩:=hv1.shape
 have hbk1:=hbk.below hb1 hbk.lt;have hB1:=hb.trans (hb1.mono hb.size);have HV1:=qz hv1;clear hv1;go_wp2_with fail;refine (natOf_any d w1 hd).mono ?_;rintro e w2 ⟨v2,rfl,hv2,hb2⟩;obtain ⟨A2,n2,c2,rfl⟩:=hv2.shape;have hbk2:=hbk1.below hb2 hbk1.lt;have hB2:=hB1.trans (hb2.mono hB1.size);have hW2:W0.heap.size<=w2.heap.size:=Nat.le_trans hb1.size hb2.size
 have hm:=make_r w2 ((HV1.out.below hb2).nr (M:=2) (lt_w2 hn)) (hv2.nr (M:=2) (lt_w2 hd)) (by omega) hd0;clear hv2 hb2 hb1;go_wp2_with fail;refine hm.mono ?_;rintro e w3 ⟨B2,i2,e2,B3,i3,e3,rfl,hx,hy,hb3⟩;have hbk3:=hbk2.below hb3 hbk2.lt;have hB3:=hB2.trans (hb3.mono hB2.size);have k0:=hbk3.cell 0;have k1:=hbk3.cell 1;have f0:=hbk3.frozen 0
 have f1:=hbk3.frozen 1;have HX:=qz (hx.more hW2);have HY:=qz (hy.more hW2);have HBK:=qz hbk3;clear hx hy hbk hbk1 hbk2 hbk3 hb3 hm;go_wp2_with fail;have hp:=put_q HBK.out (.slice B2 i2 e2) (.slice B3 i3 e3)
 exact bodyPost_ret (v:=.tuple #[.agg #[.slice B2 i2 e2,.slice B3 i3 e3],.bool true]) (by simp [results,Tryz.results137,go_sem,hp.cell 0,hp.cell 1]) rfl
  ⟨_,_,_,_,_,_,rfl,(HX.out.put_q hl _ _).more (by omega),(HY.out.put_q hl _ _).more (by omega),(hB3.setCell (Nat.le_refl _) _).setCell (Nat.le_refl _) _⟩
theorem ratioZero_r (w:World):Calls Tryz.prog 39 #[] w (RetQ w 0 1):=by
 have hb:=b1 w (.cells #[.slice none 0 0,.slice none 0 0] 46);obtain ⟨W0,hW0⟩:=exq (w.alloc (.cells #[.slice none 0 0,.slice none 0 0] 46));have hbk:=nilbox w;rw [hW0] at hb hbk;have hl:=hbk.lt;have h0:=natOf_any 0;have h1:=natOf_any 1;go_enter Tryz.func39,Tryz.ntmps39;go_wp2_with fail;refine (h0 W0 (by omega)).mono ?_;rintro e w1 ⟨v1,rfl,hv1,hb1⟩
 obtain ⟨A1,n1,c1,rfl⟩:=hv1.shape;have hbk1:=hbk.below hb1 hbk.lt;have hB1:=hb.trans (hb1.mono hb.size);have HV1:=qz hv1;clear hv1;go_wp2_with fail;refine (h1 w1 (by omega)).mono ?_;rintro e w2 ⟨v2,rfl,hv2,hb2⟩;obtain ⟨A2,n2,c2,rfl⟩:=hv2.shape;have hbk2:=hbk1.below hb2 hbk1.lt;have hB2:=hB1.trans (hb2.mono hB1.size);have k0:=hbk2.cell 0;have k1:=hbk2.cell 1
 have f0:=hbk2.frozen 0;have f1:=hbk2.frozen 1;have HX:=qz (HV1.out.below hb2);have HY:=qz (hv2.more (show W0.heap.size<=w1.heap.size from hb1.size));have HBK:=qz hbk2;clear hv2 hbk hbk1 hbk2 hb2 hb1;go_wp2_with fail;have hp:=put_q HBK.out (.slice A1 n1 c1) (.slice A2 n2 c2)
 exact bodyPost_ret (v:=.agg #[.slice A1 n1 c1,.slice A2 n2 c2]) (by simp [results,Tryz.results39,go_sem,hp.cell 0,hp.cell 1]) rfl
  ⟨_,_,_,_,_,_,rfl,(HX.out.put_q hl _ _).more (by omega),(HY.out.put_q hl _ _).more (by omega),(hB2.setCell (Nat.le_refl _) _).setCell (Nat.le_refl _) _⟩
def cutB (xs:List Nat):Bool:=decide (xs = []\/nth xs (xs.length - 1)≠0)
theorem cut_can {xs:List Nat} (hd:Dg xs) (h:cutB xs = true):Cn xs:=⟨hd,fun hne => by
 rcases of_decide_eq_true h with h1 | h1
 · exact absurd h1 hne
 · exact h1⟩
theorem can_cut {xs:List Nat} (h:Cn xs):cutB xs = true:=decide_eq_true (by
 rcases xs with _ | ⟨d,r⟩
 · exact .inl rfl
 · exact .inr (h.2 (by simp)))
theorem over_r {v1 v2 v3 v4:Value} {a b c d M:Nat} (w:World) (h1:Nr w v1 a M) (h2:Nr w v2 b M) (h3:Nr w v3 c M) (h4:Nr w v4 d M) (hM:M<=5000) :
  Calls Tryz.prog 80 #[v1,v2,v3,v4] w (RetQ w (a / Nat.gcd a b) (c * (d / Nat.gcd a b))):=by
 have hb:=b1 w (.cells #[.slice none 0 0,.slice none 0 0] 46);have hbk:=nilbox w;have hg:Nat.gcd a b < 4294967296 ^ M:=gcd_small h1.lt h2.lt;have hd:d / Nat.gcd a b < 4294967296 ^ M:=Nat.lt_of_le_of_lt (Nat.div_le_self _ _) h4.lt;obtain ⟨W0,hW0⟩:=exq (w.alloc (.cells #[.slice none 0 0,.slice none 0 0] 46));rw [hW0] at hb hbk;have hl:=hbk.lt
 obtain ⟨A1,n1,c1,rfl⟩:=h1.shape;obtain ⟨A2,n2,c2,rfl⟩:=h2.shape;obtain ⟨A3,n3,c3,rfl⟩:=h3.shape;obtain ⟨A4,n4,c4,rfl⟩:=h4.shape;have hgcd:=gcd_r W0 (h1.below hb) (h2.below hb) (by omega);have HG:=qz hg;have HD:=qz hd;have H1:=qz (h1.below hb);have H3:=qz (h3.below hb);have H4:=qz (h4.below hb);have HBK:=qz hbk;clear h1 h2 h3 h4 hg hd hbk
 go_enter Tryz.func80,Tryz.ntmps80;go_wp2_with fail;refine hgcd.mono ?_;rintro e w1 ⟨v,rfl,hnv,hb1⟩;obtain ⟨A5,n5,c5,rfl⟩:=hnv.shape;have HV:=qz hnv;clear hnv hgcd;go_wp2_with fail;refine (quot_r w1 (H1.out.below hb1) (HV.out.nr HG.out) (by omega) (by omega)).mono ?_;rintro e w2 ⟨v5,rfl,hv5,hb2⟩;obtain ⟨B1,j1,e1,rfl⟩:=hv5.shape
 have hB2:=hb1.trans (hb2.mono hb1.size);have HX:=qz (hv5.more hb1.size);clear hv5;go_wp2_with fail;refine (quot_r w2 (H4.out.below hB2) ((HV.out.below hb2).nr HG.out) (by omega) (by omega)).mono ?_;rintro e w3 ⟨v6,rfl,hv6,hb3⟩;obtain ⟨B2,j2,e2,rfl⟩:=hv6.shape;have hB3:=hB2.trans (hb3.mono hB2.size)
 have hmul:=mul_new w3 (H3.out.below hB3) (hv6.nr HD.out) hM;have HX3:=qz (HX.out.below hb3);clear hv6;go_wp2_with fail;refine hmul.mono ?_;rintro e w4 ⟨v7,rfl,hv7,hb4⟩;obtain ⟨B4,j4,e4,rfl⟩:=hv7.shape;have hs3:=hB3.size;have hba:=b1 w3 (.cells #[.slice A3 n3 c3,.slice B2 j2 e2] 44)
 have hB4:Below W0.heap.size W0 w4:=(hB3.trans (hba.mono hs3)).trans (hb4.mono (Nat.le_trans hs3 hba.size));have HX4:=qz ((HX3.out.below hba).below hb4);have HY4:=qz (hv7.more (show W0.heap.size<=_ from Nat.le_trans hs3 hba.size));have hbk4:=HBK.out.below hB4 hl;have k0:=hbk4.cell 0;have k1:=hbk4.cell 1;have f0:=hbk4.frozen 0;have f1:=hbk4.frozen 1
 have HBK4:=qz hbk4;have hBw:=hb.trans (hB4.mono hb.size);clear hv7 hbk4 hb4 hba hB4 hmul;go_wp2_with fail;have hp:=put_q HBK4.out (.slice B1 j1 e1) (.slice B4 j4 e4)
 exact bodyPost_ret (v:=.agg #[.slice B1 j1 e1,.slice B4 j4 e4]) (by simp [results,Tryz.results80,go_sem,hp.cell 0,hp.cell 1]) rfl
  ⟨_,_,_,_,_,_,rfl,(HX4.out.put_q hl _ _).more (by omega),(HY4.out.put_q hl _ _).more (by omega),(hBw.setCell (Nat.le_refl _) _).setCell (Nat.le_refl _) _⟩
theorem nr_far2 {wb W:World} {v:Value} {x M:Nat} {a b:Prop} (hn:Nr wb v x M) (hs:a/\b/\Below wb.heap.size wb W):Nr W v x M:=hn.below hs.2.2
theorem cn0 (u:World) (t:TypeId) (v1 v2:Value):(u.alloc (.cells #[v1,v2] t)).cell? ⟨u.heap.size,0,none⟩ = some v1:=(Blk.new u t #[v1,v2]).cell 0
theorem cn1 (u:World) (t:TypeId) (v1 v2:Value):(u.alloc (.cells #[v1,v2] t)).cell? ⟨u.heap.size,1,none⟩ = some v2:=(Blk.new u t #[v1,v2]).cell 1
theorem cn0d (u:World) (t:TypeId) (v1 v2:Value):(u.alloc (.cells #[v1,v2] t)).drew.cell? ⟨u.heap.size,0,none⟩ = some v1:=cn0 u t v1 v2
theorem cn1d (u:World) (t:TypeId) (v1 v2:Value):(u.alloc (.cells #[v1,v2] t)).drew.cell? ⟨u.heap.size,1,none⟩ = some v2:=cn1 u t v1 v2
theorem of_one (w:World):Calls Tryz.prog 33 #[.int .u64 1] w (RetNum w 1):=of_any 1 w (by omega)
theorem Nv.setS {w:World} {L g i n c a:Nat} {A:Option Addr} {v u:Value} (h:Nv w L v a) (hg:w.cell? ⟨g,i,none⟩ = some (.slice A n c)):Nv (w.setCell ⟨g,i,none⟩ u) L v a:=by
 obtain ⟨A',xs,n',c',h1,hl,h2,h3,h4,h5⟩:=h;refine ⟨A',xs,n',c',h1,hl,h2,?_,h4,h5⟩;rw [setCell_size];intro hx;obtain ⟨b,o,e1,e2,e3⟩:=h3 hx;refine ⟨b,o,e1,e2,fun k hk => ?_⟩;rw [World.cell?_setCell_other w _ _ u (fun e => by have:=e3 k hk; rw [<- e,hg] at this; cases this)];exact e3 k hk
theorem pow_up {x K:Nat} (K':Nat) (h:x < 4294967296 ^ K) (hk:K<=K'):x < 4294967296 ^ K':=Nat.lt_of_lt_of_le h (Nat.pow_le_pow_right (by omega) hk)
def addQ (s q:Nat × Nat):Nat × Nat :=
 (
  (s.1 * (q.2 / Nat.gcd s.2 q.2) + q.1 * (s.2 / Nat.gcd s.2 q.2)) / Nat.gcd (s.1 * (q.2 / Nat.gcd s.2 q.2) + q.1 * (s.2 / Nat.gcd s.2 q.2)) (Nat.gcd s.2 q.2),
  (s.2 / Nat.gcd s.2 q.2) * (q.2 / Nat.gcd (s.1 * (q.2 / Nat.gcd s.2 q.2) + q.1 * (s.2 / Nat.gcd s.2 q.2)) (Nat.gcd s.2 q.2)))
theorem mul_small {a b K M:Nat} (ha:a < 4294967296 ^ K) (hb:b < 4294967296 ^ M):a * b < 4294967296 ^ (K + M):=by rw [Nat.pow_add]; exact Nat.mul_lt_mul'' ha hb
theorem addQ_num {a b c d K M:Nat} (ha:a < 4294967296 ^ K) (hb:b < 4294967296 ^ M) (hc:c < 4294967296 ^ M) (hd:d < 4294967296 ^ K):a * b + c * d < 4294967296 ^ (K + M + 1):=by
 have h1:=mul_small ha hb;have h2:=mul_small hc hd;rw [Nat.add_comm M K] at h2;rw [Nat.pow_succ];omega
def Rats (w:World) (B:Nat) (A:Option Addr) (L:List (Nat × Nat)) (M:Nat):Prop :=
 ∀ k q,L[k]? = some q->∃ b o A1 n1 c1 A2 n2 c2,A = some ⟨b,o,none⟩/\b < B/\w.cell? ⟨b,o + k * 2,none⟩ = some (.slice A1 n1 c1)/\w.cell? ⟨b,o + k * 2 + 1,none⟩ = some (.slice A2 n2 c2)/\Nr w (.slice A1 n1 c1) q.1 M/\Nr w (.slice A2 n2 c2) q.2 M
theorem Rats.below {w w':World} {A:Option Addr} {L:List (Nat × Nat)} {M:Nat} (h:Rats w w.heap.size A L M) (hb:Below w.heap.size w w'):Rats w' w.heap.size A L M:=fun k q hk => by
 obtain ⟨b,o,A1,n1,c1,A2,n2,c2,h1,h2,h3,h4,h5,h6⟩:=h k q hk;exact ⟨b,o,A1,n1,c1,A2,n2,c2,h1,h2,(hb.cell (p:=⟨b,o + k * 2,none⟩) h2).trans h3,(hb.cell (p:=⟨b,o + k * 2 + 1,none⟩) h2).trans h4,h5.below hb,h6.below hb⟩
structure AddM (w:World) (g x y:Nat) (v1 v2:Value) (W:World):Prop where
 below:Below w.heap.size w W
 res:Blk W w.heap.size 46 #[.slice none 0 0,.slice none 0 0]
 sum:Blk W g 46 #[v1,v2]
 nx:Nv W w.heap.size v1 x
 ny:Nv W w.heap.size v2 y
 far:w.heap.size < g
theorem AddM.step {w W W':World} {g x y:Nat} {v1 v2:Value} (h:AddM w g x y v1 v2 W) (hb:Below W.heap.size W W'):AddM w g x y v1 v2 W' :=
 ⟨h.below.trans (hb.mono h.below.size),h.res.below hb h.res.lt,h.sum.below hb h.sum.lt,h.nx.below hb,h.ny.below hb,h.far⟩
theorem add2_r {v1 v2:Value} {a b M g:Nat} (W:World) (hc1:W.cell? ⟨g,0,none⟩ = some v1) (hc2:W.cell? ⟨g,1,none⟩ = some v2) (h1:Nr W v1 a M) (h2:Nr W v2 b M) (hM:M<=5000) :
  Calls Tryz.prog 79 #[.slice (some ⟨g,0,none⟩) 2 2] W (RetNv W (a + b)):=by
 obtain ⟨A1,xs,n1,c1,rfl,hl1,hcc1,hr1,hd1,rfl,hn1⟩:=h1;obtain ⟨A2,ys,n2,c2,rfl,hl2,hcc2,hr2,hd2,rfl,hn2⟩:=h2;have hg:=World.block_lt_of_cell? W _ hc1
 have hrow:Rows W W.heap.size (some ⟨g,0,none⟩) [xs,ys] M:=by
  intro k v hv
  match k,hv with
  | 0,hv =>
   obtain rfl:xs = v:=by simpa using hv
   exact ⟨g,0,A1,n1,c1,rfl,hg,hc1,hl1,hcc1,hr1,hd1,hn1⟩
  | 1,hv =>
   obtain rfl:ys = v:=by simpa using hv
   exact ⟨g,0,A2,n2,c2,rfl,hg,hc2,hl2,hcc2,hr2,hd2,hn2⟩
  | k + 2,hv => simp at hv
 have:=natAdd_any (some ⟨g,0,none⟩) [xs,ys] 2 2 M W rfl hrow (by omega) (by omega);simpa [sumU] using this
theorem ratioAdd_wide (A:Option Addr) (L:List (Nat × Nat)) (n c M:Nat) (w:World) (hl:L.length = n) (hr:Rats w w.heap.size A L M) (hn:n * (M + 1)<=2020) (hM:M<=2000) :
  Calls Tryz.prog 56 #[.slice A n c] w (RetQ w (L.foldl addQ (0,1)).1 (L.foldl addQ (0,1)).2):=by
 have hn1:n<=2020:=Nat.le_trans (Nat.le_mul_of_pos_right n (Nat.succ_pos M)) hn;have HNM:=qz hn;clear hn;have HL:=qz hl;have HR:=qz hr;clear hl hr;have hb:=b1 w (.cells #[.slice none 0 0,.slice none 0 0] 46);have hbk:=nilbox w;obtain ⟨W0,hW0⟩:=exq (w.alloc (.cells #[.slice none 0 0,.slice none 0 0] 46));rw [hW0] at hb hbk;have hl0:=hbk.lt;have HB0:=qz hbk
 clear hbk;go_enter Tryz.func56,Tryz.ntmps56;go_wp2_with fail;refine (ratioZero_r W0).mono ?_;rintro e w1 ⟨B1,i1,e1,B2,i2,e2,rfl,hx,hy,hb1⟩;have hs1:=hb1.size;have ha1:=b1 w1 (.cells #[.slice B1 i1 e1,.slice B2 i2 e2] 46)
 have hm0:AddM w w1.heap.size 0 1 (.slice B1 i1 e1) (.slice B2 i2 e2) (w1.alloc (.cells #[.slice B1 i1 e1,.slice B2 i2 e2] 46)) :=
  ⟨(hb.trans (hb1.mono hb.size)).trans (ha1.mono (by omega)),(HB0.out.below hb1 hl0).alloc _,Blk.new _ _ _,(hx.below ha1).more (by omega),(hy.below ha1).more (by omega),by omega⟩
 have HM0:=qz hm0;clear hx hy hm0;go_wp2_with fail;clear hW0
 go_loopw [13] (fun iv wr => ∃ (k x y:Nat) (A1:Option Addr) (n1 c1:Nat) (A2:Option Addr) (n2 c2:Nat),iv = .int .i64 (k:Int)/\k<=n/\AddM w w1.heap.size x y (.slice A1 n1 c1) (.slice A2 n2 c2) wr/\(L.take k).foldl addQ (0,1) = (x,y)/\x < 4294967296 ^ (k * (M + 1) + 1)/\y < 4294967296 ^ (k * (M + 1) + 1)) (fun iv _ => n - (intOf iv).toNat)
 case atStart => exact ⟨0,0,1,B1,i1,e1,B2,i2,e2,rfl,by omega,HM0.out,rfl,by simp,by simp⟩
 case round =>
  clear HM0 hb1 ha1;obtain ⟨k,x,y,A1,n1,c1,A2,n2,c2,rfl,hk,hm,hf,hxs,hys⟩:=hrel;have HM:=qz hm;have HF:=qz hf;have HXS:=qz hxs;have HYS:=qz hys;have t0:wr.cell? ⟨w1.heap.size,0,none⟩ = some (.slice A1 n1 c1):=hm.sum.cell 0;have t1:wr.cell? ⟨w1.heap.size,1,none⟩ = some (.slice A2 n2 c2):=hm.sum.cell 1;have hsl:=hm.sum.lt;clear hm hf hxs hys
  by_cases hkn:k < n
  ·
   obtain ⟨q,hq⟩:∃ q,L[k]? = some q:=⟨_,List.getElem?_eq_getElem (by have:=HL.out; omega)⟩
   obtain ⟨b,o,A3,n3,c3,A4,n4,c4,hA,hbl,d0,d1,hq1,hq2⟩:=(HR.out.below HM.out.below) k q hq;subst hA;have HQ:=qz hq;have HQ1:=qz hq1;have HQ2:=qz hq2;have hk0:(0:Int)<=(k:Int):=by omega
   have hk1:(k:Int) < (n:Int):=by omega
   clear hq hq1 hq2;have hK:k * (M + 1)<=2020:=Nat.le_trans (Nat.mul_le_mul_right _ hk) HNM.out;obtain ⟨K,hKK⟩:=exq (k * (M + 1) + 1);rw [hKK] at HXS HYS;have hKb:K<=2100:=by omega
   obtain ⟨E,hE1,hE2⟩:∃ E,2200<=E/\E<=2200:=⟨2200,Nat.le_refl _,Nat.le_refl _⟩
   have HKK:=qz hKK;clear hKK hK;have hba:=b1 wr (.cells #[.slice A3 n3 c3,.slice A4 n4 c4] 46);have hm2:=HM.out.step hba;have g0:(wr.alloc (.cells #[.slice A3 n3 c3,.slice A4 n4 c4] 46)).cell? ⟨wr.heap.size,0,none⟩ = some (.slice A3 n3 c3):=cn0 _ _ _ _
   have g1:(wr.alloc (.cells #[.slice A3 n3 c3,.slice A4 n4 c4] 46)).cell? ⟨wr.heap.size,1,none⟩ = some (.slice A4 n4 c4):=cn1 _ _ _ _;go_upto_region 5 with (fail)
   obtain ⟨g5,hg5⟩:=exq wr.heap.size;obtain ⟨W5,hW5⟩:=exq (wr.alloc (.cells #[.slice A3 n3 c3,.slice A4 n4 c4] 46));have HQ1':=qz (HQ1.out.below hba);have HQ2':=qz (HQ2.out.below hba);have hg5l:g5 < W5.heap.size:=by rw [<- hW5,<- hg5]; simp
   rw [hW5] at hm2 g0 g1 HQ1' HQ2';rw [hg5] at g0 g1 hsl;rw [hg5,hW5];have s0:W5.cell? ⟨w1.heap.size,0,none⟩ = some (.slice A1 n1 c1):=hm2.sum.cell 0;have s1:W5.cell? ⟨w1.heap.size,1,none⟩ = some (.slice A2 n2 c2):=hm2.sum.cell 1;have hsl5:=hm2.sum.lt;have HM2:=qz hm2;clear hW5 hg5 hba hm2 HQ1 HQ2 HM t0 t1 d0 d1;go_wp2_with fail
   refine (shares_r W5 (HM2.out.ny.nr HYS.out |>.more (M':=E) (by omega)) (HQ2'.out.more (by omega)) (by omega)).mono ?_;rintro e w6 ⟨C1,p1,r1,C2,p2,r2,C3,p3,r3,rfl,hc,hsS,haS,hb6⟩;obtain ⟨cm,hcm⟩:=exq (Nat.gcd y q.2);obtain ⟨sS,hss⟩:=exq (y / cm);obtain ⟨aS,has⟩:=exq (q.2 / cm);rw [hcm] at hc hsS haS;rw [hss] at hsS;rw [has] at haS
   have lcm0:cm < 4294967296 ^ E:=by rw [<- hcm]; exact gcd_small (pow_up E HYS.out (by omega)) (HQ2'.out.more (M':=E) (by omega)).lt
   have lsS:sS < 4294967296 ^ E:=by rw [<- hss]; exact Nat.lt_of_le_of_lt (Nat.div_le_self _ _) (Nat.lt_of_lt_of_le HYS.out (Nat.pow_le_pow_right (by omega) (by omega)))
   have laS:aS < 4294967296 ^ E:=by rw [<- has]; exact Nat.lt_of_le_of_lt (Nat.div_le_self _ _) (HQ2'.out.more (M':=E) (by omega)).lt
   have hm6:=HM2.out.step hb6;have t0:w6.cell? ⟨w1.heap.size,0,none⟩ = some (.slice A1 n1 c1):=hm6.sum.cell 0;have u0:w6.cell? ⟨g5,0,none⟩ = some (.slice A3 n3 c3):=(hb6.cell (p:=⟨g5,0,none⟩) hg5l).trans g0;have u1:w6.cell? ⟨g5,1,none⟩ = some (.slice A4 n4 c4):=(hb6.cell (p:=⟨g5,1,none⟩) hg5l).trans g1
   have N1:=qz ((hm6.nx.nr HXS.out).more (M':=E) (by omega));have N2:=qz (haS.nr laS);have N3:=qz (((HQ1'.out.more (M':=E) (by omega))).below hb6);have N4:=qz (hsS.nr lsS);have N5:=qz (hc.nr lcm0);have N6:=qz (((HQ2'.out.more (M':=E) (by omega))).below hb6);have lp1:x * aS < 4294967296 ^ (E + E):=mul_small (K:=E) (M:=E) N1.out.lt laS
   have lp2:q.1 * sS < 4294967296 ^ (E + E):=mul_small (K:=E) (M:=E) N3.out.lt lsS;have LP1:=qz lp1;have LP2:=qz lp2;have HM6:=qz hm6;have HCM:=qz hcm;have HSS:=qz hss;have HAS:=qz has;have hg56:g5 < w6.heap.size:=Nat.lt_of_lt_of_le hg5l hb6.size;clear hc hsS haS hcm hss has lcm0 lsS laS lp1 lp2 hm6 hb6 HM2 HQ1' HQ2' g0 g1 s0 s1
   go_upto_region 6 with (fail)
   go_cut [9] (fun v9 wx => ∃ (A9:Option Addr) (n9 c9:Nat),v9 = .slice A9 n9 c9/\(∃ L,Nv wx L (.slice A9 n9 c9) (x * aS + q.1 * sS))/\Below w6.heap.size w6 wx)
   case first =>
    go_region_held3 (fun u => u.cell? ⟨w1.heap.size,0,none⟩ = some (.slice A1 n1 c1)/\u.cell? ⟨g5,0,none⟩ = some (.slice A3 n3 c3)/\Below w6.heap.size w6 u)
     (first | exact ⟨t0,u0,(Below.refl _ _).drew⟩ | assumption | exact held2 (b1 _ _) ⟨t0,u0,(Below.refl _ _).drew⟩ | exact held2 (b2 _ _ _) ⟨t0,u0,(Below.refl _ _).drew⟩ | exact held2 (b1 _ _) (by assumption))
     (first
      | (go_at_call 42; (with_reducible refine Calls.mono (mul2_r (v1:=.slice A1 n1 c1) (v2:=.slice C3 p3 r3) (a:=x) (b:=aS) (M:=E) _ ?_ ?_ (nr_far2 N1.out (by assumption)) (nr_far2 N2.out (by assumption)) (by omega)) ?_); (focus (first | exact cn0 _ _ _ _ | exact cn0d _ _ _ _ | (go_simp; done))); (focus (first | exact cn1 _ _ _ _ | exact cn1d _ _ _ _ | (go_simp; done))); rintro e x1 ⟨v1,rfl,hn1,hb1⟩; obtain ⟨D1,i7,e7,rfl⟩:=hn1.shape; have P1:=qz hn1; clear hn1; have hz1:=hb1.size; (try simp at hz1); have hS1:=held2 hb1 (by assumption); (try have P2:=qz (P2.out.below hb1)); (try have P2:=qz ((P2.out.below (b1 _ _)).below hb1)); have hq:=bcell hb1; obtain ⟨hc1,hf1⟩:=hq; (try have l1:w6.heap.size < x1.heap.size:=by omega); (try have l2:w6.heap.size + 1 < x1.heap.size:=by omega); (try have l3:x2.heap.size < x1.heap.size:=by omega))
      | (go_at_call 42; (with_reducible refine Calls.mono (mul2_r (v1:=.slice A3 n3 c3) (v2:=.slice C2 p2 r2) (a:=q.1) (b:=sS) (M:=E) _ ?_ ?_ (nr_far2 N3.out (by assumption)) (nr_far2 N4.out (by assumption)) (by omega)) ?_); (focus (first | exact cn0 _ _ _ _ | exact cn0d _ _ _ _ | (go_simp; done))); (focus (first | exact cn1 _ _ _ _ | exact cn1d _ _ _ _ | (go_simp; done))); rintro e x2 ⟨v2,rfl,hn2,hb2⟩; obtain ⟨D2,i8,e8,rfl⟩:=hn2.shape; have P2:=qz hn2; clear hn2; have hz2:=hb2.size; (try simp at hz2); have hS2:=held2 hb2 (by assumption); (try have P1:=qz (P1.out.below hb2)); (try have P1:=qz ((P1.out.below (b1 _ _)).below hb2)); have hq:=bcell hb2; obtain ⟨hc2,hf2⟩:=hq; (try have l1:w6.heap.size < x2.heap.size:=by omega); (try have l2:w6.heap.size + 1 < x2.heap.size:=by omega); (try have l3:x1.heap.size < x2.heap.size:=by omega))
      | (go_at_call 79; (with_reducible refine (add2_r (v1:=.slice D1 i7 e7) (v2:=.slice D2 i8 e8) (a:=x * aS) (b:=q.1 * sS) (M:=E + E) _ (by first | exact cn0 _ _ _ _ | exact cn0d _ _ _ _) (by first | exact cn1 _ _ _ _ | exact cn1d _ _ _ _) ((P1.out.below (b1 _ _)).nr LP1.out) ((P2.out.below (b1 _ _)).nr LP2.out) (by omega)).mono ?_); rintro e x3 ⟨v3,rfl,hn3,hb3⟩; obtain ⟨A9,n9,c9,rfl⟩:=hn3.shape; have P3:=qz hn3; clear hn3; have hS3:=held2 hb3 (by assumption)))
    all_goals
     go_wp2_with fail;go_meet;exact ⟨_,_,_,rfl,⟨_,P3.out⟩,hS3.2.2⟩
   case rest =>
    obtain ⟨A9,n9,c9,rfl,⟨L9,h9⟩,hb7⟩:=hcut;have hnum:x * aS + q.1 * sS < 4294967296 ^ (E + E + 1):=by have h1:=LP1.out; have h2:=LP2.out; rw [Nat.pow_succ]; omega
    have hm7:=HM6.out.step hb7;have u17:wc.cell? ⟨g5,1,none⟩ = some (.slice A4 n4 c4):=(hb7.cell (p:=⟨g5,1,none⟩) hg56).trans u1;have hov:=over_r wc (h9.nr hnum) ((N5.out.below hb7).more (M':=E + E + 1) (by omega)) ((N4.out.below hb7).more (M':=E + E + 1) (by omega)) ((N6.out.below hb7).more (M':=E + E + 1) (by omega)) (by omega)
    have hadd:addQ (x,y) q = ((x * aS + q.1 * sS) / Nat.gcd (x * aS + q.1 * sS) cm,sS * (q.2 / Nat.gcd (x * aS + q.1 * sS) cm)):=by
     unfold addQ;simp only [HCM.out,HSS.out,HAS.out]
    have hsmall:(x * aS + q.1 * sS) / Nat.gcd (x * aS + q.1 * sS) cm < 4294967296 ^ ((k + 1) * (M + 1) + 1)/\sS * (q.2 / Nat.gcd (x * aS + q.1 * sS) cm) < 4294967296 ^ ((k + 1) * (M + 1) + 1):=by
     have e:(k + 1) * (M + 1) + 1 = K + M + 1:=by rw [<- HKK.out,Nat.add_mul]; omega
     have hq1M:q.1 < 4294967296 ^ M:=by
      have h:=(HR.out k q HQ.out)
      obtain ⟨_,_,_,_,_,_,_,_,_,_,_,_,h5,_⟩:=h;exact h5.lt
     have hq2M:q.2 < 4294967296 ^ M:=by
      have h:=(HR.out k q HQ.out)
      obtain ⟨_,_,_,_,_,_,_,_,_,_,_,_,_,h6⟩:=h;exact h6.lt
     have hsK:sS < 4294967296 ^ K:=by rw [<- HSS.out]; exact Nat.lt_of_le_of_lt (Nat.div_le_self _ _) HYS.out
     have haM:aS < 4294967296 ^ M:=by rw [<- HAS.out]; exact Nat.lt_of_le_of_lt (Nat.div_le_self _ _) hq2M
     rw [e];refine ⟨Nat.lt_of_le_of_lt (Nat.div_le_self _ _) (addQ_num HXS.out haM hq1M hsK),?_⟩;have:=mul_small hsK (Nat.lt_of_le_of_lt (Nat.div_le_self q.2 (Nat.gcd (x * aS + q.1 * sS) cm)) hq2M);exact Nat.lt_of_lt_of_le this (Nat.pow_le_pow_right (by omega) (by omega))
    have HADD:=qz hadd;have HSM:=qz hsmall;have HM7:=qz hm7;clear h9 hb7 hm7 hnum hadd hsmall t0 u0 u1 N1 N2 N3 N4 N5 N6 HM6;go_wp2_with fail;refine hov.mono ?_;rintro e w8 ⟨D1,i7,e7,D2,i8,e8,rfl,hx8,hy8,hb8⟩;have hm8:=HM7.out.step hb8;have s80:w8.cell? ⟨w1.heap.size,0,none⟩ = some (.slice A1 n1 c1):=hm8.sum.cell 0
    have s81:w8.cell? ⟨w1.heap.size,1,none⟩ = some (.slice A2 n2 c2):=hm8.sum.cell 1;have f80:=hm8.sum.frozen 0;have f81:=hm8.sum.frozen 1;have HX8:=qz (hx8.more HM7.out.below.size);have HY8:=qz (hy8.more HM7.out.below.size);have HM8:=qz hm8;have hs8:=hm8.sum.lt;clear hx8 hy8 hm8 hov u17 hb8;go_wp2_with fail;go_roundw
    case rel =>
     have hfar:=HM8.out.far;have s81':(w8.setCell ⟨w1.heap.size,0,none⟩ (.slice D1 i7 e7)).cell? ⟨w1.heap.size,1,none⟩ = some (.slice A2 n2 c2):=(World.cell?_setCell_other _ _ _ _ (by intro e; injection e; omega)).trans s81;refine ⟨k + 1,_,_,D1,i7,e7,D2,i8,e8,by go_num,by omega,⟨?_,?_,put_q HM8.out.sum _ _,?_,?_,hfar⟩,?_,HSM.out.1,HSM.out.2⟩
     · exact (HM8.out.below.setCell (by show w.heap.size<=w1.heap.size; omega) _).setCell (by show w.heap.size<=w1.heap.size; omega) _
     · exact (HM8.out.res.far (by show w.heap.size≠w1.heap.size; omega) _).far (by show w.heap.size≠w1.heap.size; omega) _
     · exact (HX8.out.setS s80).setS s81'
     · exact (HY8.out.setS s80).setS s81'
     · rw [take_snoc_some HQ.out,List.foldl_append,HF.out,List.foldl_cons,List.foldl_nil,HADD.out]
    case measure => simp [intOf]; omega
  ·
   obtain rfl:k = n:=by omega
   have hfin:L.foldl addQ (0,1) = (x,y):=by have h:=HF.out; rwa [List.take_of_length_le (by have:=HL.out; omega)] at h
   have HFIN:=qz hfin;have k0:wr.cell? ⟨w.heap.size,0,none⟩ = some (.slice none 0 0):=HM.out.res.cell 0;have k1:wr.cell? ⟨w.heap.size,1,none⟩ = some (.slice none 0 0):=HM.out.res.cell 1;have f0:=HM.out.res.frozen 0;have f1:=HM.out.res.frozen 1;clear hfin;go_wp2_with fail;have hp:=put_q HM.out.res (.slice A1 n1 c1) (.slice A2 n2 c2)
   have k1':(wr.setCell ⟨w.heap.size,0,none⟩ (.slice A1 n1 c1)).cell? ⟨w.heap.size,1,none⟩ = some (.slice none 0 0):=(World.cell?_setCell_other _ _ _ _ (by intro e; injection e; omega)).trans k1
   refine bodyPost_ret (v:=.agg #[.slice A1 n1 c1,.slice A2 n2 c2]) (by simp [results,Tryz.results56,go_sem,hp.cell 0,hp.cell 1]) rfl
    ⟨_,_,_,_,_,_,rfl,?_,?_,(HM.out.below.setCell (Nat.le_refl _) _).setCell (Nat.le_refl _) _⟩
   · rw [HFIN.out]; exact (HM.out.nx.setS k0).setS k1'
   · rw [HFIN.out]; exact (HM.out.ny.setS k0).setS k1'
theorem cells2 {W W':World} {p q:Addr} {a b:Value} (hb:Below W.heap.size W W') (h:W.cell? p = some a/\W.cell? q = some b):W'.cell? p = some a/\W'.cell? q = some b :=
 ⟨(hb.cell (World.block_lt_of_cell? W _ h.1)).trans h.1,(hb.cell (World.block_lt_of_cell? W _ h.2)).trans h.2⟩
theorem put_Q {W:World} {g:Nat} {p q:Value} (h:Blk W g 35 #[p,q]) (x y:Value):Blk ((W.setCell ⟨g,0,none⟩ x).setCell ⟨g,1,none⟩ y) g 35 #[x,y]:=by
 have:=(h.set_ 0 x).set_ 1 y;exact this
theorem Num.setSi {w:World} {L g i n c a:Nat} {A:Option Addr} {v u:Value} (h:Num w L v a) (hg:w.cell? ⟨g,i,none⟩ = some (.slice A n c)):Num (w.setCell ⟨g,i,none⟩ u) L v a:=by
 obtain ⟨A',xs,n',c',h1,hl,h2,h3,h4,h5⟩:=h;refine ⟨A',xs,n',c',h1,hl,h2,?_,h4,h5⟩;rw [setCell_size];intro hx;obtain ⟨b,o,e1,e2,e3⟩:=h3 hx;refine ⟨b,o,e1,e2,fun k hk => ?_⟩;rw [World.cell?_setCell_other w _ _ u (fun e => by have:=e3 k hk; rw [<- e,hg] at this; cases this)];exact e3 k hk
theorem of_word (n:Nat) (w:World) (hn:n < 18446744073709551616):Calls Tryz.prog 33 #[.int .u64 (n:Int)] w (RetNum w n):=of_any n w hn
theorem qbox (w:World):Blk (w.alloc (.cells #[.slice none 0 0,.slice none 0 0] 35)) w.heap.size 35 #[.slice none 0 0,.slice none 0 0]:=Blk.new _ _ _
theorem out_num {v:Value} {a L j:Nat} (w:World) (h:Num w L v a) (ha:a < 65536 ^ j) (hj:j<=5000):Calls Tryz.prog 37 #[v] w (RetNv w a):=by
 obtain ⟨A,xs,n,c,rfl,hl,hc,hr,hcan,hV,hn⟩:=h.form ha;have:=out_any A xs n c w hl.out hr hcan (by omega)
 rwa [hV.out] at this
theorem same_cut {A:Option Addr} {xs:List Nat} {n c L M:Nat} {u:Value} (z:Bool) (w:World) (hl:xs.length = n) (hr:Ra w w.heap.size A xs) (hd:Dg xs) (hn:n<=1000) (h2:Nv w L u (U xs)) (hz:cutB xs = z) :
  Calls Tryz.prog 36 #[.slice A n c,u] w fun e w' => e = .returned (.bool z)/\Below w.heap.size w w':=by
 obtain ⟨A2,ys,n2,c2,rfl,hl2,hc2,hr2,_,hcan2,hU2⟩:=h2;have:=same_any A A2 xs ys n c n2 c2 w hl hl2 hr hr2 (by omega)
 have e:decide (xs = ys) = z:=by
  rw [<- hz];cases hcb:cutB xs
  ·
   refine decide_eq_false (fun h => ?_);rw [h,can_cut hcan2] at hcb;cases hcb
  · exact decide_eq_true (U_inj (cut_can hd hcb) hcan2 hU2.symm)
 rwa [e] at this
theorem same_nv {v u:Value} {a L1 L2 j:Nat} (w:World) (h1:Nv w L1 v a) (h2:Nv w L2 u a) (ha:a < 4294967296 ^ j) (hj:j<=1000) :
  Calls Tryz.prog 36 #[v,u] w fun e w' => e = .returned (.bool true)/\Below w.heap.size w w':=by
 obtain ⟨A,xs,n,c,rfl,hl,hc,hr,_,hcan,hU⟩:=h1;have hn:=hcan.len (k:=j) (by omega);exact same_cut (M:=0) true w hl hr hcan.1 (by omega) (by rw [hU]; exact h2) (can_cut hcan)
theorem cells4 {wb W W':World} {p q r s:Addr} {a b c d:Value} (hb:Below W.heap.size W W') (h:(W.cell? p = some a/\W.cell? q = some b)/\(W.cell? r = some c/\W.cell? s = some d)/\Below wb.heap.size wb W) :
  (W'.cell? p = some a/\W'.cell? q = some b)/\(W'.cell? r = some c/\W'.cell? s = some d)/\Below wb.heap.size wb W':=⟨cells2 hb h.1,cells2 hb h.2.1,h.2.2.trans (hb.mono h.2.2.size)⟩
theorem nv_far2 {wb W:World} {L:Nat} {v:Value} {n:Nat} {a b:Prop} (hn:Nv wb L v n) (hs:a/\b/\Below wb.heap.size wb W):Nv W L v n:=hn.below hs.2.2
theorem same4_r {A1 A2 B1 B2:Option Addr} {n1 c1 n2 c2 i1 e1 i2 e2 a b L1 L2 L3 L4 j:Nat} (w:World) (h1:Nv w L1 (.slice A1 n1 c1) a) (h2:Nv w L2 (.slice A2 n2 c2) b) (h3:Num w L3 (.agg #[.slice B1 i1 e1]) a) (h4:Num w L4 (.agg #[.slice B2 i2 e2]) b)
  (ha:a < 65536 ^ j) (hb:b < 65536 ^ j) (hj:j<=1000) :
  Calls Tryz.prog 13 #[.agg #[.slice A1 n1 c1,.slice A2 n2 c2],.agg #[.slice B1 i1 e1,.slice B2 i2 e2]] w fun e w' => e = .returned (.bool true)/\Below w.heap.size w w':=by
 have hbb:=b2 w (.cells #[.slice A1 n1 c1,.slice A2 n2 c2] 46) (.cells #[.slice B1 i1 e1,.slice B2 i2 e2] 35);have q1:=(Blk.new w 46 #[.slice A1 n1 c1,.slice A2 n2 c2]).alloc (.cells #[.slice B1 i1 e1,.slice B2 i2 e2] 35);have q2:=Blk.new (w.alloc (.cells #[.slice A1 n1 c1,.slice A2 n2 c2] 46)) 35 #[.slice B1 i1 e1,.slice B2 i2 e2]
 rw [World.size_alloc] at q2;obtain ⟨W0,hW0⟩:=exq ((w.alloc (.cells #[.slice A1 n1 c1,.slice A2 n2 c2] 46)).alloc (.cells #[.slice B1 i1 e1,.slice B2 i2 e2] 35));rw [hW0] at hbb q1 q2;have x0:W0.cell? ⟨w.heap.size,0,none⟩ = some (.slice A1 n1 c1):=q1.cell 0;have x1:W0.cell? ⟨w.heap.size,1,none⟩ = some (.slice A2 n2 c2):=q1.cell 1
 have y0:W0.cell? ⟨w.heap.size + 1,0,none⟩ = some (.slice B1 i1 e1):=q2.cell 0;have y1:W0.cell? ⟨w.heap.size + 1,1,none⟩ = some (.slice B2 i2 e2):=q2.cell 1;have hp32:∀ x:Nat,x < 65536 ^ j->x < 4294967296 ^ j:=fun x h => Nat.lt_of_lt_of_le h (Nat.pow_le_pow_left (by omega) j)
 have PA:=qz (hp32 a ha);have PB:=qz (hp32 b hb);have HA:=qz ha;have HB:=qz hb;have H1:=qz (h1.below hbb);have H2:=qz (h2.below hbb);have H3:=qz (h3.below hbb);have H4:=qz (h4.below hbb);clear h1 h2 h3 h4 q1 q2 hp32 ha hb;go_enter Tryz.func13,Tryz.ntmps13;go_wp2_with fail
 go_region_held3 (fun u => (u.cell? ⟨w.heap.size,0,none⟩ = some (.slice A1 n1 c1)/\u.cell? ⟨w.heap.size,1,none⟩ = some (.slice A2 n2 c2))/\(u.cell? ⟨w.heap.size + 1,0,none⟩ = some (.slice B1 i1 e1)/\u.cell? ⟨w.heap.size + 1,1,none⟩ = some (.slice B2 i2 e2))/\Below W0.heap.size W0 u)
  (first | exact ⟨⟨x0,x1⟩,⟨y0,y1⟩,(Below.refl _ _).drew⟩ | assumption)
  (first
   | (go_at_call 37; (with_reducible refine (out_num (a:=a) _ (num_far2 H3.out (by assumption)) HA.out (by omega)).mono ?_); rintro e x1 ⟨v1,rfl,hn1,hb1⟩; have N1:=qz hn1; clear hn1; have hS1:=cells4 hb1 (by assumption))
   | (go_at_call 36; (with_reducible refine (same_nv (a:=a) _ (nv_far2 H1.out (by assumption)) N1.out PA.out hj).mono ?_); rintro e x2 ⟨rfl,hb2⟩; have hS2:=cells4 hb2 (by assumption))
   | (go_at_call 37; (with_reducible refine (out_num (a:=b) _ (num_far2 H4.out (by assumption)) HB.out (by omega)).mono ?_); rintro e x3 ⟨v3,rfl,hn3,hb3⟩; have N3:=qz hn3; clear hn3; have hS3:=cells4 hb3 (by assumption))
   | (go_at_call 36; (with_reducible refine (same_nv (a:=b) _ (nv_far2 H2.out (by assumption)) N3.out PB.out hj).mono ?_); rintro e x4 ⟨rfl,hb4⟩; have hS4:=cells4 hb4 (by assumption)))
 all_goals
  go_wp2_with fail;go_ret;exact ⟨rfl,hbb.trans (hS4.2.2.mono hbb.size)⟩
end
section
open Go.ChangeShapes Go.WideShapes Go.ChangeAt Go.RowKit
set_option maxRecDepth 100000
section
variable {H:Type} {enc:TypeId × Value->H} {P:Program}
theorem trodAll_below (hl:laidOutB P = true) {W W':World} (hb:Below W.heap.size W W'):∀ {ts:List TypeId} {vs:List Value} {ds:List (DataW H)} {ps:List MemPlace},
  ts.all (fun t => P.readableRec t && decide (t < P.types.size)) = true->DataW.TrodAll enc P W 0 (fun _ => true) true ts vs ds ps->(∀ x∈ps,x.block < W.heap.size) ->
   DataW.TrodAll enc P W' 0 (fun b => decide (b < W.heap.size)) true ts vs ds ps
 | [],_,_,_,_,h,_ => by
  obtain ⟨rfl,rfl,rfl⟩:=trodAll_nil h
  exact trodAll_mk0
 | t :: ts,_,_,_,hr,h,hlt => by
  obtain ⟨v,vs,d,ds,p,q,rfl,rfl,rfl,h1,h2⟩:=trodAll_cons h;simp only [List.all_cons,Bool.and_eq_true,decide_eq_true_eq] at hr;exact trodAll_cons_mk (Below.trod hl hr.1.1 hr.1.2 h1 hb (fun x hx => hlt x (by simp [hx]))) (trodAll_below hl hb (by simpa using hr.2) h2 (fun x hx => hlt x (by simp [hx])))
theorem law_post {f:Func} {s:ChangeSpec} {tb:TypeId} {W W':World} {args:Array Value} {ds gs:List (DataW H)} {before:List MemPlace}
  (hl:laidOutB P = true) (hro:f.params.toList.all (fun t => P.readableRec t && decide (t < P.types.size)) = true) (htb:P.underlying tb = some .bool) (hrt:f.resultTypes = #[tb]) (hvars:s.vars = [])
  (hW:DataW.Whole enc P f.params.toList s.vars false W args.toList ds gs before) (hspec:s.fn H ds = { results:=[.lit (.bool true)],args:=ds }) (hb:Below W.heap.size W W') :
  s.post enc P f false true false false W args (.bool true) W':=by
 have hW':=hW;obtain ⟨p,q,hA,hV,rfl,hfz,hnd⟩:=hW;rw [hvars] at hV;obtain ⟨rfl,rfl⟩:=trodVars_none hV;refine ⟨ds,[],p ++ [],[],p,[],hW',?_,?_,?_,World.keptBut_mono (fun x hx => ⟨hx,?_⟩) (hb.frame _),fun h => by cases h⟩
 ·
  rw [List.append_nil,hspec,hrt];exact trodAll_cons_mk (shut_bool htb _) trodAll_mk0
 ·
  rw [List.append_nil,hspec];exact trodAll_below hl hb hro hA (fun x hx => by simpa using hW'.lt x (by simp [hx]))
 ·
  rw [List.append_nil,hspec,hvars];rfl
 · simpa using hx
end
theorem own_knob:ownKnob Tryz.prog.godebug = none:=by kernel_rfl
theorem laid_out:laidOutB Tryz.prog = true:=by kernel_rfl
end
section
open Go.RowKit
set_option maxRecDepth 100000
theorem num_lower {w:World} {L L':Nat} {v:Value} {a:Nat} (h:Num w L v a) (hl:L'<=L):Num w L' v a:=by
 obtain ⟨A,xs,n,c,h1,h2,h3,h4,h5,h6⟩:=h;exact ⟨A,xs,n,c,h1,h2,h3,h4,h5.more hl,h6⟩
def RetDB (w:World) (a b:Nat) (e:Ending) (w':World):Prop:=∃ A1 n1 c1 A2 n2 c2,e = .returned (.agg #[.slice A1 n1 c1,.slice A2 n2 c2])/\(∃ L,w.heap.size<=L/\Num w' L (.agg #[.slice A1 n1 c1]) a)/\(∃ L,w.heap.size<=L/\Num w' L (.agg #[.slice A2 n2 c2]) b)/\Below w.heap.size w w'
def QIn (W:World) (A:Option Addr) (n:Nat) (xs ys:Nat->Nat):Prop :=
 ∀ k,k < n->∃ b o A1 n1 c1 A2 n2 c2,A = some ⟨b,o,none⟩/\W.cell? ⟨b,o + k * 2,none⟩ = some (.slice A1 n1 c1)/\W.cell? ⟨b,o + k * 2 + 1,none⟩ = some (.slice A2 n2 c2) /\
  (∃ L,Num W L (.agg #[.slice A1 n1 c1]) (xs k))/\(∃ L,Num W L (.agg #[.slice A2 n2 c2]) (ys k))
theorem QIn.below {W W':World} {A:Option Addr} {n:Nat} {xs ys:Nat->Nat} (h:QIn W A n xs ys) (hb:Below W.heap.size W W'):QIn W' A n xs ys:=fun k hk => by
 obtain ⟨b,o,A1,n1,c1,A2,n2,c2,h1,h2,h3,⟨L1,h4⟩,⟨L2,h5⟩⟩:=h k hk;exact ⟨b,o,A1,n1,c1,A2,n2,c2,h1,(hb.cell (World.block_lt_of_cell? _ _ h2)).trans h2,(hb.cell (World.block_lt_of_cell? _ _ h3)).trans h3,⟨L1,h4.below hb⟩,⟨L2,h5.below hb⟩⟩
def NumB (W:World) (lo hi:Nat) (v:Value) (a:Nat):Prop:=∃ A xs n c,v = .agg #[.slice A n c]/\xs.length = n/\n<=c/\Rd W hi A xs/\Fr lo A xs/\Can xs/\V xs = a
theorem NumB.num {W:World} {lo hi:Nat} {v:Value} {a:Nat} (h:NumB W lo hi v a) (hh:hi<=W.heap.size):Num W lo v a:=by
 obtain ⟨A,xs,n,c,h1,h2,h3,h4,h5⟩:=h;exact ⟨A,xs,n,c,h1,h2,h3,h4.more hh,h5⟩
theorem NumB.of_num {W:World} {lo L:Nat} {v:Value} {a:Nat} (h:Num W L v a) (hl:lo<=L):NumB W lo W.heap.size v a:=by
 obtain ⟨A,xs,n,c,h1,h2,h3,h4,h5,h6⟩:=h;exact ⟨A,xs,n,c,h1,h2,h3,h4,h5.more hl,h6⟩
theorem NumB.grown {W W':World} {lo hi:Nat} {v:Value} {a:Nat} (h:NumB W lo hi v a) {row:Option Nat} (hg:W.grownBy W' row) (hd:∀ r,row = some r->r < lo\/hi<=r):NumB W' lo hi v a:=by
 obtain ⟨A,xs,n,c,h1,h2,h3,h4,h5,h6⟩:=h;refine ⟨A,xs,n,c,h1,h2,h3,fun hx => ?_,h5,h6⟩;obtain ⟨b,o,e1,e2,e3⟩:=h4 hx;obtain ⟨b',o',e4,e5⟩:=h5 hx;rw [e1] at e4;injection e4 with e4
 injection e4 with e4
 subst e4;exact ⟨b,o,e1,e2,fun k hk => hg.cell (e3 k hk) (fun e => by rcases hd b e.symm with h | h <;> omega)⟩
theorem NumB.below {W W':World} {lo hi:Nat} {v:Value} {a:Nat} (h:NumB W lo hi v a) (hb:Below W.heap.size W W') (hh:hi<=W.heap.size):NumB W' lo hi v a:=by
 obtain ⟨A,xs,n,c,h1,h2,h3,h4,h5⟩:=h;exact ⟨A,xs,n,c,h1,h2,h3,h4.below hb hh,h5⟩
def QEl (W:World) (v:Value) (cs:List Value) (xs ys:Nat->Nat) (j:Nat):Prop :=
 ∃ lo hi A1 n1 c1 A2 n2 c2,cs[j * 2]? = some (.slice A1 n1 c1)/\cs[j * 2 + 1]? = some (.slice A2 n2 c2) /\
  NumB W lo hi (.agg #[.slice A1 n1 c1]) (xs j)/\NumB W lo hi (.agg #[.slice A2 n2 c2]) (ys j)/\hi<=W.heap.size/\∀ r,v.ownBlock = some r->r < lo\/hi<=r
def QRow (W:World) (base:Nat) (v:Value) (k:Nat) (xs ys:Nat->Nat):Prop :=
 ∃ cs,W.ownsRow base 35 2 v k cs/\∀ j,j < k->QEl W v cs xs ys j
theorem own_keep2 {w w':World} {base:Nat} {e:TypeId} {s:Nat} {v:Value} {n:Nat} {xs:List Value} (h:w.ownsRow base e s v n xs) (hb:Below w.heap.size w w'):w'.ownsRow base e s v n xs:=by
 have hlt:=h.lt;obtain ⟨h1,h2⟩:=h;refine ⟨h1,?_⟩;rcases h2 with h2 | ⟨g,cap,cur,rfl,hg,hh,r⟩
 · exact .inl h2
 · exact .inr ⟨g,cap,cur,rfl,hg,by rw [hb.block g (hlt g rfl).2]; exact hh,r⟩
theorem QRow.nil (W:World) (base:Nat) (xs ys:Nat->Nat):QRow W base (.slice none 0 0) 0 xs ys:=⟨[],World.ownsRow_nil _ _ _ _,fun j hj => absurd hj (by omega)⟩
theorem QRow.qin {W:World} {base:Nat} {A:Option Addr} {c k:Nat} {xs ys:Nat->Nat} (h:QRow W base (.slice A k c) k xs ys):QIn W A k xs ys:=fun j hj => by
 obtain ⟨cs,h1,h2⟩:=h;obtain ⟨lo,hi,A1,n1,c1,A2,n2,c2,e1,e2,e3,e4,e5,e6⟩:=h2 j hj;rcases h1.2 with ⟨_,h0⟩ | ⟨g,cap,cur,hv,_⟩
 · omega
 ·
  injection hv with hA
  subst hA;have a1:=h1.cells (g:=g) rfl _ _ e1;have a2:=h1.cells (g:=g) rfl _ _ e2;refine ⟨g,0,A1,n1,c1,A2,n2,c2,rfl,?_,?_,⟨_,e3.num e5⟩,⟨_,e4.num e5⟩⟩
  ·
   rw [Go.WideShapes.add_plain] at a1;exact a1
  ·
   rw [Go.WideShapes.add_plain] at a2;simpa only [Nat.add_assoc] using a2
theorem QRow.push {W0 W1 W2 W3:World} {base:Nat} {v v':Value} {k:Nat} {xs ys:Nat->Nat} {A1 A2:Option Addr} {n1 c1 n2 c2 L1 L2:Nat} {o:Obj} {cs:List Value} (q1:W0.ownsRow base 35 2 v k cs) (q2:∀ j,j < k->QEl W0 v cs xs ys j) (hb1:Below W0.heap.size W0 W1)
  (hx:Num W1 L1 (.agg #[.slice A1 n1 c1]) (xs k)) (hl1:W0.heap.size<=L1) (hy:Num W1 L2 (.agg #[.slice A2 n2 c2]) (ys k)) (hl2:W0.heap.size<=L2) (h2:W1.alloc o = W2) (hg:W2.grownBy W3 v.ownBlock)
  (h3:W3.ownsRow base 35 2 v' (k + 1) (cs ++ [.slice A1 n1 c1,.slice A2 n2 c2])) (hat:v'.ownBlock = v.ownBlock\/v'.ownBlock = some W2.heap.size):QRow W3 base v' (k + 1) xs ys:=by
 subst h2;have hlen:cs.length = k * 2:=q1.1;have hs1:=hb1.size;have hs2:(W1.alloc o).heap.size = W1.heap.size + 1:=by simp
 have hlt:=q1.lt;refine ⟨_,h3,fun j hj => ?_⟩;rcases Nat.lt_or_ge j k with h | h
 ·
  obtain ⟨lo,hi,A3,n3,c3,A4,n4,c4,e1,e2,e3,e4,e5,e6⟩:=q2 j h;refine ⟨lo,hi,A3,n3,c3,A4,n4,c4,by rw [List.getElem?_append_left (by omega)]; exact e1,by rw [List.getElem?_append_left (by omega)]; exact e2,?_,?_,by have:=hg.size; omega,fun r hr => ?_⟩
  · exact (((e3.below hb1 e5).below (b1 W1 o) (by omega)).grown hg e6)
  · exact (((e4.below hb1 e5).below (b1 W1 o) (by omega)).grown hg e6)
  ·
   rcases hat with h' | h'
   · exact e6 r (h' ▸ hr)
   ·
    rw [h'] at hr;injection hr with hr
    omega
 ·
  obtain rfl:j = k:=by omega
  refine ⟨W0.heap.size,W1.heap.size,A1,n1,c1,A2,n2,c2,by rw [List.getElem?_append_right (by omega),hlen]; simp,by rw [List.getElem?_append_right (by omega),hlen]; simp [show j * 2 + 1 - j * 2 = 1 by omega],?_,?_,by have:=hg.size; omega,fun r hr => ?_⟩
  · exact (((NumB.of_num hx hl1).below (b1 W1 o) (Nat.le_refl _)).grown hg (fun r hr => .inl (hlt r hr).2))
  · exact (((NumB.of_num hy hl2).below (b1 W1 o) (Nat.le_refl _)).grown hg (fun r hr => .inl (hlt r hr).2))
  ·
   rcases hat with h' | h'
   · exact .inl (hlt r (h' ▸ hr)).2
   ·
    rw [h'] at hr;injection hr with hr
    omega
theorem info_Q:(Tryz.prog.info? 35).map (fun i => (i.zero,i.size,i.bytes)) = some (some (.agg #[.slice none 0 0,.slice none 0 0]),2,48):=by kernel_rfl
def qs (n:Nat) (xs ys:Nat->Nat):List (Nat × Nat):=(List.range n).map fun k => (xs k,ys k)
end
end Go.Proofs.YtkdmnlihpebbkaaGreat
