import Derived.Test.YtkdmnlihpebbkaaGreatCT17
set_option linter.all false
set_option maxHeartbeats 4000000
namespace Go.Proofs.YtkdmnlihpebbkaaGreat
section
open Go.RowKit
set_option maxRecDepth 100000
def RLocks14 (S:Sv14):Prop:=Tidy14 usL S.L 8/\Locks14 S
theorem holder14_iff (S:Sv14) (i:Nat) (xu:Bool) (xh:Int):Holder14 S i ⟨xu,xh⟩↔(xh≠-1->us14 usH S.H xh = true)/\∀ j,j < S.H.length->¬ (Waits14 (gt14 S.H j) (i:Int)/\(xh = -1\/xh = (j:Int))):=by
 by_cases hm:xh = -1
 ·
  subst hm;constructor
  ·
   rintro (⟨_,h⟩ | ⟨h,_⟩)
   · exact ⟨fun h => absurd rfl h,fun j hj h2 => h j hj h2.1⟩
   · exact absurd rfl h
  ·
   rintro ⟨_,h⟩;exact .inl ⟨rfl,fun j hj h2 => h j hj ⟨h2,.inl rfl⟩⟩
 ·
  constructor
  ·
   rintro (⟨h,_⟩ | ⟨_,h1,h2⟩)
   · exact absurd h hm
   ·
    refine ⟨fun _ => h1,fun j hj h3 => ?_⟩;obtain ⟨q,hq,_,_,hat⟩:=us14_in def14H h1;have h4:xh = (j:Int):=h3.2.resolve_left hm;obtain rfl:q = j:=by have h5:xh = (q:Int):=hq; omega
    have h6:at14 usH S.H xh = gt14 S.H q:=hat;rw [show (⟨xu,xh⟩:Lk14).h = xh from rfl,h6] at h2;exact h2 h3.1
  ·
   rintro ⟨h1,h2⟩;have h3:=h1 hm;refine .inr ⟨hm,h3,fun h4 => ?_⟩;obtain ⟨q,hq,hql,_,hat⟩:=us14_in def14H h3;rw [show (⟨xu,xh⟩:Lk14).h = xh from rfl,hat] at h4;exact h2 q hql ⟨h4,.inr hq⟩
theorem is14_waits (S:Sv14) (j i:Nat) (hj:j < S.H.length):(us14 usH S.H (j:Int) = true/\(at14 usH S.H (j:Int)).s = 6/\(at14 usH S.H (j:Int)).f = (i:Int))↔Waits14 (gt14 S.H j) (i:Int):=by
 constructor
 ·
  rintro ⟨h0,h1,h2⟩;rw [us14_nat] at h0;rw [at14_nat h0] at h1 h2;exact ⟨h1,h2⟩
 ·
  rintro ⟨h1,h2⟩
  have h0:usH (gt14 S.H j) = true:=by
   obtain ⟨x,hx⟩:=exq (gt14 S.H j);rw [hx] at h1 ⊢;simp [usH,h1]
  exact ⟨by rw [us14_nat]; exact h0,by rw [at14_nat h0]; exact h1,by rw [at14_nat h0]; exact h2⟩
theorem rlocks14 (
         v:Value) (S:Sv14) (b:Bool) (w:World) (h:St14 w v S) (hbt:b = true↔RLocks14 S) :
  Calls Tryz.prog 24 #[v] w fun e w' => e = .returned (.bool b)/\Below w.heap.size w w':=by
 obtain ⟨A0,A1,A2,A3,A4,n0,n1,n2,n3,n4,c0,c1,c2,c3,c4,sq,rfl,hs⟩:=h;have HX0:=qz (Bx14.new hs);have HBT:=qz hbt;have hnT:=hs.m1;have hnH:=hs.m2;have hnL:=hs.m3;have HLT:=qz hs.l1;have HLH:=qz hs.l2;have HLL:=qz hs.l3;have t1:=HX0.out.x.cell 3;clear hs hbt;go_enter Tryz.func24,Tryz.ntmps24;go_wp2_with fail;clear t1
 go_loopw [3] (fun i wr => ∃ k:Nat,i = .int .i64 (k:Int)/\k<=n3/\Hid (∀ j,j < k->(usL (gt14 S.L j) = true->Holder14 S j (gt14 S.L j))/\(usL (gt14 S.L j) = false->gt14 S.L j = default))/\Hid (Bx14 w S A0 A1 A2 A3 A4 n0 n1 n2 n3 n4 c0 c1 c2 c3 c4 sq wr)) (fun i _ => n3 - (intOf i).toNat)
 case atStart => exact ⟨0,rfl,by omega,qz (fun j h => by omega),HX0⟩
 case round =>
  obtain ⟨k,rfl,hk,HN,HW⟩:=hrel;have t0_:=HW.out.x.cell 3;by_cases hkn:k < n3
  ·
   skip;obtain ⟨a,of,hA,hab,hq⟩:=Lq.at_ len14L (by omega) HW.out.s.r3 (show k < S.L.length by rw [HW.out.s.l3]; omega);have HAE:=qz hA;obtain ⟨x,hx⟩:=exq (gt14 S.L k);rw [hx] at hq;obtain ⟨xu,xh⟩:=x;have e0:wr.cell? ⟨a,of + k * 2,none⟩ = some (.bool xu):=hq 0 _ rfl;have e1:wr.cell? ⟨a,of + k * 2 + 1,none⟩ = some (.int .i64 xh):=hq 1 _ rfl
   have i0:(0:Int)<=(k:Int):=by omega
   have i1:(k:Int) < (n3:Int):=by omega
   have HV:=qz (Bx14.step HW.out (b1' wr (.cells #[.bool xu,.int .i64 xh] 79)));have hv:=Blk.new wr 79 #[.bool xu,.int .i64 xh];have v0:=hv.cell 0;have v1:=hv.cell 1;have HVB:=qz hv;have HXE:=qz hx;obtain ⟨p0,p1,p2,p3,p4,p5⟩:=ce6 HV.out.x;obtain ⟨X,hX⟩:=exq (wr.alloc (.cells #[.bool xu,.int .i64 xh] 79));rw [hX] at HV HVB v0 v1 p0 p1 p2 p3 p4 p5
   clear hv hq hx hab;subst hA
   have HN3:=qz (fun h:(usL (⟨xu,xh⟩:Lk14) = true->Holder14 S k (⟨xu,xh⟩:Lk14))/\(usL (⟨xu,xh⟩:Lk14) = false->(⟨xu,xh⟩:Lk14) = default) => (show Hid (∀ j,j < k + 1->(usL (gt14 S.L j) = true->Holder14 S j (gt14 S.L j))/\(usL (gt14 S.L j) = false->gt14 S.L j = default)) from qz (fun j hj => by
    rcases (show j < k\/j = k by omega) with h5 | h5
    · exact HN.out j h5
    · rw [h5,HXE.out]; exact h)))
   have HFF2:=qz (fun h2:¬ ((usL (⟨xu,xh⟩:Lk14) = true->Holder14 S k (⟨xu,xh⟩:Lk14))/\(usL (⟨xu,xh⟩:Lk14) = false->(⟨xu,xh⟩:Lk14) = default)) => (show Hid (b = false) from qz (bool14_of HBT.out (fun h => h2 (by
    have h3:=h.2 k (by rw [HLL.out]; exact hkn);have h4:=h.1.2.2 k (by rw [HLL.out]; exact hkn);rw [HXE.out] at h3 h4
    exact ⟨h3,h4⟩)))))
   cases xu with
   | false =>
    by_cases hz:xh = 0
    ·
     have HN2:=HN3.out ⟨fun h => (by cases h),fun _ => (by rw [hz]; rfl)⟩;have hzb:(xh != 0) = false:=by simp [hz]
     clear hz;go_wp2_with fail;go_roundw
     case rel => exact ⟨k + 1,by go_num,by omega,HN2,HV⟩
     case measure => simp [intOf]; omega
    ·
     have hzb:(xh != 0) = true:=by simpa using hz
     have HF:=HFF2.out (fun h => hz (by have h2:=h.2 rfl; injection h2));go_wp2_with fail;go_ret
     exact ⟨by rw [HF.out]; rfl,HV.out.b⟩
   | true =>
    obtain ⟨bb,hbb⟩:=ex_bool14 (xh≠-1/\us14 usH S.H xh = false);have HBB:=qz hbb;have HIS:=qz (fun (m:Nat) (bs:Bool) W (h:Below X.heap.size X W) h2 => ris14 _ S (m:Int) 6 (k:Int) bs W (HV.out.step h).st h2);clear hbb;go_upto_region 8 with (fail)
    go_cut [34] (fun y wx => y = .bool bb/\Hid (Below X.heap.size X wx))
    case first =>
     clear HN3 HFF2 HN HIS;by_cases pm:xh = -1
     ·
      subst pm;obtain rfl:bb = false:=bool14_of HBB.out (fun h => h.1 rfl);go_wp2_with fail;go_meet;exact ⟨rfl,qz (Below.refl _ _)⟩
     ·
      have hpm:(xh != -1) = true:=by simpa using pm
      obtain ⟨bh,hbh⟩:=exq (us14 usH S.H xh);have HE:Hid (bb = !bh):=qz (by rw [Bool.eq_iff_iff,HBB.out,<- hbh]; simp [pm]);have HC:=qz (rThread14 _ S xh bh _ HV.out.st hbh);clear hbh;go_wp2_with fail;refine HC.out.mono ?_;rintro e u ⟨rfl,hb1⟩;have HB1:=qz hb1;clear hb1 HC;go_wp2_with fail;go_meet
      exact ⟨by first | rfl | (rw [HE.out]; done) | (rw [HE.out]; rfl),HB1⟩
    case rest =>
     obtain ⟨rfl,HBX⟩:=hcut
     cases bb with
     | true =>
      have HU:=qz (HV.out.step HBX.out)
      have HF:=HFF2.out (fun h => by
       have h1:=((holder14_iff _ _ _ _).1 (h.1 rfl)).1;have h2:=HBB.out.1 rfl;rw [h1 h2.1] at h2
       exact absurd h2.2 (by decide))
      go_wp2_with fail;go_ret
      exact ⟨by rw [HF.out]; rfl,HU.out.b⟩
     | false =>
      have HOK:Hid (xh≠-1->us14 usH S.H xh = true):=qz (fun h => by
       cases hu:us14 usH S.H xh with
       | true => rfl
       | false => exact absurd (HBB.out.2 ⟨h,hu⟩) (by decide))
      have tH_:=(HV.out.step HBX.out).x.cell 2;go_wp2_with fail;clear tH_;go_loopw [5] (fun i wm => ∃ m:Nat,i = .int .i64 (m:Int)/\m<=n2/\Hid (∀ j,j < m->¬ (Waits14 (gt14 S.H j) (k:Int)/\(xh = -1\/xh = (j:Int))))/\Hid (Below X.heap.size X wm)) (fun i _ => n2 - (intOf i).toNat)
      case atStart => exact ⟨0,rfl,by omega,qz (fun j h => by omega),HBX⟩
      case round =>
       clear HBX;obtain ⟨m,rfl,hm,HM,HBX⟩:=hrel;have HU:=qz (HV.out.step HBX.out);have HY:=qz (HVB.out.below HBX.out HVB.out.lt);have ya0:=HY.out.cell 0;have ya1:=HY.out.cell 1;obtain ⟨za0,za1,za2,za3,za4,za5⟩:=ce6 HU.out.x;by_cases hmn:m < n2
       ·
        obtain ⟨bs,hbs⟩:=ex_bool14 (us14 usH S.H (m:Int) = true/\(at14 usH S.H (m:Int)).s = 6/\(at14 usH S.H (m:Int)).f = (k:Int));have hbw:bs = true↔Waits14 (gt14 S.H m) (k:Int):=hbs.trans (is14_waits S m k (by rw [HLH.out]; exact hmn));have HBW:=qz hbw;have HC:=qz (HIS.out m bs _ HBX.out hbs)
        have HM2:=qz (fun (h:¬ (Waits14 (gt14 S.H m) (k:Int)/\(xh = -1\/xh = (m:Int)))) => (show Hid (∀ j,j < m + 1->¬ (Waits14 (gt14 S.H j) (k:Int)/\(xh = -1\/xh = (j:Int)))) from qz (fun j hj => by
         rcases (show j < m\/j = m by omega) with h5 | h5
         · exact HM.out j h5
         · rw [h5]; exact h)))
        have HFM:=qz (fun (h:Waits14 (gt14 S.H m) (k:Int)/\(xh = -1\/xh = (m:Int))) => HFF2.out (fun h2 => ((holder14_iff _ _ _ _).1 (h2.1 rfl)).2 m (by rw [HLH.out]; exact hmn) h));clear hbs hbw;go_wp2_with fail;refine HC.out.mono ?_;rintro e u ⟨rfl,hb1⟩;have HB1:=qz (HBX.out.trans (hb1.mono HBX.out.size));have HU1:=qz (HV.out.step HB1.out)
        have yb1:=(HVB.out.below HB1.out HVB.out.lt).cell 1;have zb2:=HU1.out.x.cell 2;clear hb1 HC
        cases bs with
        | false =>
         have HN2:=HM2.out (fun h => by have:=HBW.out.2 h.1; cases this);go_wp2_with fail;go_roundw
         case rel => exact ⟨m + 1,by go_num,by omega,HN2,HB1⟩
         case measure => simp [intOf]; omega
        | true =>
         by_cases pm:xh = -1
         ·
          have HF:=HFM.out ⟨HBW.out.1 rfl,.inl pm⟩;subst pm;go_wp2_with fail;go_ret;exact ⟨by rw [HF.out]; rfl,HU1.out.b⟩
         ·
          have hpm:(xh == -1) = false:=by simpa using pm
          by_cases pk:xh = (m:Int)
          ·
           have HF:=HFM.out ⟨HBW.out.1 rfl,.inr pk⟩;subst pk;go_wp2_with fail;go_ret;exact ⟨by rw [HF.out]; rfl,HU1.out.b⟩
          ·
           have hpk:(xh == (m:Int)) = false:=by simpa using pk
           have HN2:=HM2.out (fun h => h.2.elim pm pk);go_wp2_with fail;go_roundw
           case rel => exact ⟨m + 1,by go_num,by omega,HN2,HB1⟩
           case measure => simp [intOf]; omega
       ·
        have hmm:m = n2:=by omega
        have HN2:=HN3.out ⟨fun _ => (holder14_iff _ _ _ _).2 ⟨HOK.out,fun j hj => HM.out j (by rw [HLH.out] at hj; omega)⟩,fun h => (by cases h)⟩;have h2:¬ (m:Int) < (n2:Int):=by omega
        clear hmm hmn;go_wp2_with fail;go_roundw
        case rel => exact ⟨k + 1,by go_num,by omega,HN2,HU⟩
        case measure => simp [intOf]; omega
  ·
   obtain rfl:k = n3:=by omega
   have HE:Hid (b = true↔k<=8/\(k = 0\/usL (gt14 S.L (k - 1)) = true)):=qz (by
    rw [HBT.out];constructor
    ·
     intro h;have h1:=h.1.1;have h2:=h.1.2.1;rw [HLL.out] at h1 h2;exact ⟨h1,en14_full.1 h2⟩
    ·
     rintro ⟨h1,h2⟩
     exact ⟨⟨by rw [HLL.out]; exact h1,by rw [HLL.out]; exact en14_full.2 h2,fun j hj => (HN.out j (by rw [HLL.out] at hj; exact hj)).2⟩,fun j hj => (HN.out j (by rw [HLL.out] at hj; exact hj)).1⟩)
   have h1:¬ (k:Int) < (k:Int):=by omega
   by_cases hm:k<=8
   ·
    by_cases hz:k = 0
    ·
     subst hz;have HF:Hid (b = true):=qz (HE.out.2 ⟨by omega,.inl rfl⟩);go_wp2_with fail;go_ret;exact ⟨by rw [HF.out]; rfl,HW.out.b⟩
    ·
     obtain ⟨q,hqk⟩:∃ q,k = q + 1:=⟨k - 1,by omega⟩
     have HQK:=qz hqk;have hqn:q < k:=by omega
     obtain ⟨a,of,hA,hab,hq⟩:=Lq.at_ len14L (by omega) HW.out.s.r3 (show q < S.L.length by rw [HW.out.s.l3]; omega);subst hA;obtain ⟨x,hx⟩:=exq (gt14 S.L q);have HF:Hid (b = usL x):=qz (by rw [Bool.eq_iff_iff,HE.out,<- hx,HQK.out,Nat.add_sub_cancel]; simp; omega);rw [hx] at hq;obtain ⟨xu,xh⟩:=x
     have e0:wr.cell? ⟨a,of + q * 2,none⟩ = some (.bool xu):=hq 0 _ rfl;have hw:IntKind.i64.wrap ((k:Int) - 1) = (q:Int):=by rw [IntKind.wrap_i64]; omega
     have i0:(0:Int)<=(q:Int):=by omega
     have i1:(q:Int) < (k:Int):=by omega
     have d1:(k:Int)<=8:=by omega
     have d2:((k:Int) == 0) = false:=by simp; omega
     clear hq hx hab hz hm HE hqk hqn
     cases xu with
     | true =>
      go_wp2_with fail;go_ret
      exact ⟨by rw [HF.out]; rfl,HW.out.b⟩
     | false =>
      go_wp2_with fail;go_ret;exact ⟨by rw [HF.out]; rfl,HW.out.b⟩
   ·
    have HF:Hid (b = false):=qz (bool14_of HE.out (fun h => hm h.1));have c1:decide ((k:Int)<=8) = false:=by simp; omega
    have c3:¬ (k:Int)<=8:=by omega
    clear hm HE;go_wp2_with fail;go_ret;exact ⟨by rw [HF.out]; rfl,HW.out.b⟩
def cnt14 (xs:List Int) (x:Int):Nat->Nat
 | 0 => 0
 | k + 1 => cnt14 xs x k + if gt14 xs k = x then 1 else 0
theorem cnt14_le (xs:List Int) (x:Int) (k:Nat):cnt14 xs x k<=k:=by
 induction k with
 | zero => exact Nat.le_refl _
 | succ k ih => rw [cnt14]; split <;> omega
theorem cnt14_take (xs:List Int) (x:Int) (k:Nat) (hk:k<=xs.length):cnt14 xs x k = (xs.take k).count x:=by
 induction k with
 | zero => simp [cnt14]
 | succ k ih =>
  rw [cnt14,ih (by omega),List.take_add_one,List.getElem?_eq_getElem (by omega),List.count_append,gt14_in (by omega)];simp [List.count_singleton]
theorem cnt14_all (xs:List Int) (x:Int):cnt14 xs x xs.length = xs.count x:=by
 rw [cnt14_take _ _ _ (Nat.le_refl _),List.take_length]
theorem want14_mem (S:Sv14) (n:Nat) (x:Int):x∈want14 S n↔∃ i:Nat,i < n/\Queues14 S i (gt14 S.H i)/\x = (i:Int):=by
 induction n with
 | zero => simp [want14]
 | succ n ih =>
  rw [want14,List.mem_append,ih];constructor
  ·
   rintro (⟨i,h1,h2,h3⟩ | h)
   · exact ⟨i,by omega,h2,h3⟩
   ·
    split at h
    · exact ⟨n,by omega,by assumption,by simpa using h⟩
    · cases h
  ·
   rintro ⟨i,h1,h2,h3⟩;rcases (show i < n\/i = n by omega) with h | h
   · exact .inl ⟨i,h,h2,h3⟩
   ·
    subst h;exact .inr (by rw [if_pos h2]; simp [h3])
theorem want14_up (S:Sv14) (n:Nat):(want14 S n).Pairwise (fun a b => a < b):=by
 induction n with
 | zero => exact List.Pairwise.nil
 | succ n ih =>
  rw [want14,List.pairwise_append];refine ⟨ih,by split <;> simp,fun a ha b hb => ?_⟩;obtain ⟨i,h1,_,h3⟩:=(want14_mem S n a).1 ha;split at hb
  ·
   have h4:b = (n:Int):=by simpa using hb
   omega
  · cases hb
theorem count14_le {xs:List Int} (h:xs.Pairwise (fun a b => a < b)) (x:Int):xs.count x = if x∈xs then 1 else 0:=by
 have hn:xs.Nodup:=h.imp (fun h1 h2 => by omega);split
 ·
  rename_i hm
  rw [List.Nodup.count hn,if_pos hm]
 ·
  rename_i hm
  exact List.count_eq_zero.2 hm
theorem srt14_perm (xs:List Int):(srt14 xs).Perm xs:=List.mergeSort_perm _ _
theorem srt14_up (xs:List Int):(srt14 xs).Pairwise (fun a b => a<=b):=by
 have h:=List.pairwise_mergeSort (le:=fun x y:Int => decide (x<=y)) (fun a b c h1 h2 => by simp at *; omega) (fun a b => by simp; omega) xs;exact h.imp (fun h => by simpa using h)
theorem srt14_want (S:Sv14) (xs:List Int) (n:Nat):srt14 xs = want14 S n↔∀ x:Int,xs.count x = if x∈want14 S n then 1 else 0:=by
 constructor
 ·
  intro h x;rw [<- count14_le (want14_up S n),<- h];exact ((srt14_perm xs).count_eq x).symm
 ·
  intro h;refine List.Perm.eq_of_pairwise (le:=fun a b:Int => a<=b) (fun a b _ _ h1 h2 => by omega) (srt14_up xs) ((want14_up S n).imp (fun h => by omega)) ?_;refine (srt14_perm xs).trans (List.perm_iff_count.2 (fun x => ?_));rw [h x,count14_le (want14_up S n)]
def RQueue14 (S:Sv14):Prop:=(∀ i:Nat,i < S.H.length->(Queues14 S i (gt14 S.H i)↔cnt14 S.Q (i:Int) S.Q.length = 1)/\cnt14 S.Q (i:Int) S.Q.length<=1/\¬ (cnt14 S.Q (i:Int) S.Q.length = 1/\Heard14 S (gt14 S.H i)))/\∀ k,k < S.Q.length->0<=gt14 S.Q k/\gt14 S.Q k < (S.H.length:Int)
theorem rqueue14_iff (S:Sv14) (h32:S.H.length<=32):RQueue14 S↔Queue14 S:=by
 constructor
 ·
  rintro ⟨h1,h2⟩
  have hs:srt14 S.Q = want14 S S.H.length:=by
   rw [srt14_want];intro x;by_cases hx:∃ i:Nat,i < S.H.length/\x = (i:Int)
   ·
    obtain ⟨i,hi,rfl⟩:=hx;have h3:=h1 i hi;rw [cnt14_all] at h3;by_cases hq:Queues14 S i (gt14 S.H i)
    ·
     rw [if_pos ((want14_mem _ _ _).2 ⟨i,hi,hq,rfl⟩)];exact h3.1.1 hq
    ·
     rw [if_neg (fun h => by
      obtain ⟨j,_,h5,h6⟩:=(want14_mem _ _ _).1 h;obtain rfl:i = j:=by omega
      exact hq h5)]
     have h4:¬ List.count (i:Int) S.Q = 1:=fun h => hq (h3.1.2 h)
     have h5:=h3.2.1;omega
   ·
    rw [if_neg (fun h => by
     obtain ⟨j,hj,_,h6⟩:=(want14_mem _ _ _).1 h
     exact hx ⟨j,hj,h6⟩)]
    refine List.count_eq_zero.2 (fun h => hx ?_);obtain ⟨k,hk,rfl⟩:=List.getElem_of_mem h;have h5:=h2 k hk;rw [gt14_in hk] at h5;exact ⟨(S.Q[k]).toNat,by omega,by omega⟩
  refine ⟨?_,fun j hj hq hh => (h1 j hj).2.2 ⟨(h1 j hj).1.1 hq,hh⟩,hs⟩;have h4:=congrArg List.length hs;rw [srt14_len] at h4;have h5:=want14_len S S.H.length;omega
 ·
  rintro ⟨_,h1,hs⟩;have hc:=(srt14_want S S.Q S.H.length).1 hs;refine ⟨fun i hi => ?_,fun k hk => ?_⟩
  ·
   rw [cnt14_all,hc]
   have hw:((i:Int)∈want14 S S.H.length)↔Queues14 S i (gt14 S.H i):=by
    rw [want14_mem];constructor
    ·
     rintro ⟨j,_,h5,h6⟩;obtain rfl:i = j:=by omega
     exact h5
    · exact fun h => ⟨i,hi,h,rfl⟩
   by_cases hq:Queues14 S i (gt14 S.H i)
   ·
    rw [if_pos (hw.2 hq)];exact ⟨by simp [hq],by omega,fun h => h1 i hi hq h.2⟩
   ·
    rw [if_neg (fun h => hq (hw.1 h))];exact ⟨by simp [hq],by omega,fun h => by have:=h.1; omega⟩
  ·
   have hm:gt14 S.Q k∈want14 S S.H.length:=by
    have h3:=hc (gt14 S.Q k);have h4:0 < List.count (gt14 S.Q k) S.Q:=List.count_pos_iff.2 (gt14_mem hk);split at h3
    · assumption
    · omega
   obtain ⟨i,hi,_,h6⟩:=(want14_mem _ _ _).1 hm;omega
theorem rqueue14 (
         v:Value) (S:Sv14) (b:Bool) (w:World) (h:St14 w v S) (h32:S.H.length<=32) (hok:∀ j,j < S.H.length->(gt14 S.H j).s = 4->us14 usH S.H (gt14 S.H j).f = true) (hbt0:b = true↔Queue14 S) :
  Calls Tryz.prog 25 #[v] w fun e w' => e = .returned (.bool b)/\Below w.heap.size w w':=by
 have hbt:=hbt0.trans (rqueue14_iff S h32).symm;obtain ⟨A0,A1,A2,A3,A4,n0,n1,n2,n3,n4,c0,c1,c2,c3,c4,sq,rfl,hs⟩:=h;have HX0:=qz (Bx14.new hs);have HBT:=qz hbt;have hnT:=hs.m1;have hnH:=hs.m2;have hnL:=hs.m3;have HLT:=qz hs.l1;have HLH:=qz hs.l2;have HLL:=qz hs.l3;have HLQ:=qz hs.l4;have hnQ:=hs.m4;have HOK:=qz hok;have t1:=HX0.out.x.cell 2
 clear hs hbt hbt0 h32 hok;go_enter Tryz.func25,Tryz.ntmps25;go_wp2_with fail;clear t1
 go_loopw [3] (fun i wr => ∃ k:Nat,i = .int .i64 (k:Int)/\k<=n2/\Hid (∀ j:Nat,j < k->((Queues14 S j (gt14 S.H j)↔cnt14 S.Q (j:Int) n4 = 1)/\cnt14 S.Q (j:Int) n4<=1/\¬ (cnt14 S.Q (j:Int) n4 = 1/\Heard14 S (gt14 S.H j))))/\Hid (Bx14 w S A0 A1 A2 A3 A4 n0 n1 n2 n3 n4 c0 c1 c2 c3 c4 sq wr)) (fun i _ => n2 - (intOf i).toNat)
 case atStart => exact ⟨0,rfl,by omega,qz (fun j h => by omega),HX0⟩
 case round =>
  obtain ⟨k,rfl,hk,HN,HW⟩:=hrel;have t0_:=HW.out.x.cell 2;by_cases hkn:k < n2
  ·
   skip;have p4_:=HW.out.x.cell 4;go_wp2_with fail;go_loopw [4,5] (fun c i wm => ∃ m:Nat,c = .int .i64 ((cnt14 S.Q (k:Int) m:Nat):Int)/\i = .int .i64 (m:Int)/\m<=n4/\Hid (wr = wm)) (fun _ i _ => n4 - (intOf i).toNat)
   case atStart => exact ⟨0,rfl,rfl,by omega,qz rfl⟩
   case round =>
    obtain ⟨m,rfl,rfl,hm,HWM⟩:=hrel;obtain rfl:=HWM.out;clear HWM;obtain ⟨cn,hcn⟩:=exq (cnt14 S.Q (k:Int) m);have hck:cn<=m:=by rw [<- hcn]; exact cnt14_le _ _ _
    have HCN:=qz hcn;rw [hcn];clear hcn;by_cases hmn:m < n4
    ·
     obtain ⟨a4,of4,hA4,_,hq4⟩:=Lq.at_ len14I (by omega) HW.out.s.r4 (show m < S.Q.length by rw [HW.out.s.l4]; omega);subst hA4;obtain ⟨y,hy⟩:=exq (gt14 S.Q m);rw [hy] at hq4;have e4:wr.cell? ⟨a4,of4 + m,none⟩ = some (.int .i64 y):=by have h:=hq4 0 _ rfl; rwa [Nat.mul_one] at h
     have HC1:Hid (cnt14 S.Q (k:Int) (m + 1) = cn + if y = (k:Int) then 1 else 0):=qz (by rw [cnt14,HCN.out,hy]);have i0:(0:Int)<=(m:Int):=by omega
     have i1:(m:Int) < (n4:Int):=by omega
     have hw1:IntKind.i64.wrap ((cn:Int) + 1) = ((cn + 1:Nat):Int):=by rw [IntKind.wrap_i64]; omega
     clear hq4 hy;by_cases hyk:y = (k:Int)
     ·
      have HC2:Hid (cnt14 S.Q (k:Int) (m + 1) = cn + 1):=qz (by rw [HC1.out,if_pos hyk]);subst hyk;go_wp2_with fail;go_roundw
      case rel => exact ⟨m + 1,by rw [HC2.out]; first | rfl | simp,by go_num,by omega,qz (by first | rfl | trivial)⟩
      case measure => simp [intOf]; omega
     ·
      have hykb:(y == (k:Int)) = false:=by simpa using hyk
      have HC2:Hid (cnt14 S.Q (k:Int) (m + 1) = cn):=qz (by rw [HC1.out,if_neg hyk]; rfl);go_wp2_with fail;go_roundw
      case rel => exact ⟨m + 1,by rw [HC2.out],by go_num,by omega,qz (by first | rfl | trivial)⟩
      case measure => simp [intOf]; omega
    ·
     obtain rfl:m = n4:=by omega
     obtain ⟨x,hx⟩:=exq (gt14 S.H k);obtain ⟨xz,xf,xc,xq,xu⟩:=x;have HXE:=qz hx;have hkl:k < S.H.length:=by rw [HW.out.s.l2]; exact hkn
     have hxo:xz = 4->us14 usH S.H xf = true:=fun h => by have h2:=HOK.out k hkl (by rw [hx]; exact h); rwa [hx] at h2
     have HXO:=qz hxo;obtain ⟨bq,hbq⟩:=ex_bool14 (Queues14 S k (⟨xz,xf,xc,xq,xu⟩:Th14));have HBQ:=qz hbq;have HC:=qz (rqueues14 _ S k xz xf xc xq xu bq wr HW.out.st hkl hx hxo hbq)
     have HN3:=qz (fun h:((Queues14 S k (gt14 S.H k)↔cnt14 S.Q (k:Int) m = 1)/\cnt14 S.Q (k:Int) m<=1/\¬ (cnt14 S.Q (k:Int) m = 1/\Heard14 S (gt14 S.H k))) => (show Hid (∀ j:Nat,j < k + 1->((Queues14 S j (gt14 S.H j)↔cnt14 S.Q (j:Int) m = 1)/\cnt14 S.Q (j:Int) m<=1/\¬ (cnt14 S.Q (j:Int) m = 1/\Heard14 S (gt14 S.H j)))) from qz (fun j hj => by
      rcases (show j < k\/j = k by omega) with h5 | h5
      · exact HN.out j h5
      · rw [h5]; exact h)))
     have HFF2:=qz (fun h2:¬ ((Queues14 S k (gt14 S.H k)↔cnt14 S.Q (k:Int) m = 1)/\cnt14 S.Q (k:Int) m<=1/\¬ (cnt14 S.Q (k:Int) m = 1/\Heard14 S (gt14 S.H k))) => (show Hid (b = false) from qz (bool14_of HBT.out (fun h => h2 (by
      have h3:=h.1 k (by rw [HLH.out]; exact hkn)
      rwa [HLQ.out] at h3)))))
     have h1_:¬ (m:Int) < (m:Int):=by omega
     clear hx hkl hxo hbq;obtain ⟨pA0,pA1,pA2,pA3,pA4,pA5⟩:=ce6 HW.out.x;go_wp2_with fail;refine HC.out.mono ?_;rintro e u ⟨rfl,hb1⟩;have HU:=qz (HW.out.step hb1);clear hb1 HC;by_cases c1:cn = 1
     ·
      subst c1
      cases bq with
      | false =>
       have HF:=HFF2.out (fun h => by have h3:=h.1.2 HCN.out; rw [HXE.out] at h3; have:=HBQ.out.2 h3; cases this);go_wp2_with fail;go_ret
       exact ⟨by rw [HF.out]; rfl,HU.out.b⟩
      | true =>
       obtain ⟨a,of,hA,hab,hq⟩:=Lq.at_ len14H (by omega) HU.out.s.r2 (show k < S.H.length by rw [HLH.out]; exact hkn);subst hA;rw [HXE.out] at hq;have e0:u.cell? ⟨a,of + k * 5,none⟩ = some (.int .i64 xz):=hq 0 _ rfl;have e1:u.cell? ⟨a,of + k * 5 + 1,none⟩ = some (.int .i64 xf):=hq 1 _ rfl;have p2_:=HU.out.x.cell 2;have j0:(0:Int)<=(k:Int):=by omega
       have j1:(k:Int) < (n2:Int):=by omega
       clear hq hab;by_cases z4:xz = 4
       ·
        subst z4;obtain ⟨q,hxq,hql,_,hat⟩:=us14_in def14H (HXO.out rfl);subst hxq;obtain ⟨y,hy⟩:=exq (gt14 S.H q);obtain ⟨yz,yf,yc,yq,yu⟩:=y;have HAT:Hid (at14 usH S.H (q:Int) = ⟨yz,yf,yc,yq,yu⟩):=qz (hat.trans hy);obtain ⟨a2,of2,hA2,_,hq2⟩:=Lq.at_ len14H (by omega) HU.out.s.r2 hql;injection hA2 with hA2
        injection hA2 with ha2 ho2
        subst ha2 ho2;rw [hy] at hq2;have g0:u.cell? ⟨a,of + q * 5,none⟩ = some (.int .i64 yz):=hq2 0 _ rfl;have g1:(0:Int)<=(q:Int):=by omega
        have g2:(q:Int) < (n2:Int):=by rw [HLH.out] at hql; omega
        clear hat hy hq2 hql;by_cases z5:yz = 5
        ·
         subst z5;have HF:=HFF2.out (fun h => h.2.2 ⟨HCN.out,by rw [HXE.out]; exact ⟨rfl,by show (at14 usH S.H (q:Int)).s = 5; rw [HAT.out]⟩⟩);go_wp2_with fail
         go_quiet (fail)
         go_wp2_with fail;go_ret;exact ⟨by rw [HF.out]; rfl,(HU.out.step (below_drewN _)).b⟩
        ·
         have z5b:(yz == 5) = false:=by simpa using z5
         have HN2:=HN3.out ⟨⟨fun _ => HCN.out,fun _ => by rw [HXE.out]; exact HBQ.out.1 rfl⟩,by rw [HCN.out]; omega,fun h => by
          have h3:=h.2;rw [HXE.out] at h3;have h4:(at14 usH S.H (q:Int)).s = 5:=h3.2;rw [HAT.out] at h4
          exact z5 h4⟩
         go_wp2_with fail
         go_quiet (fail)
         go_wp2_with fail;go_roundw
         case rel => exact ⟨k + 1,by go_num,by omega,HN2,qz (HU.out.step (below_drewN _))⟩
         case measure => simp [intOf]; omega
       ·
        have z4b:(xz == 4) = false:=by simpa using z4
        have HN2:=HN3.out ⟨⟨fun _ => HCN.out,fun _ => by rw [HXE.out]; exact HBQ.out.1 rfl⟩,by rw [HCN.out]; omega,fun h => by
         have h3:=h.2;rw [HXE.out] at h3
         exact z4 h3.1⟩
        go_wp2_with fail
        go_quiet (fail)
        go_wp2_with fail;go_roundw
        case rel => exact ⟨k + 1,by go_num,by omega,HN2,qz (HU.out.step (below_drewN _))⟩
        case measure => simp [intOf]; omega
     ·
      by_cases c0:cn = 0
      ·
       subst c0;have c1b:(((0:Nat):Int) == 1) = false:=by decide
       cases bq with
       | true =>
        have HF:=HFF2.out (fun h => by have h3:=h.1.1 (by rw [HXE.out]; exact HBQ.out.1 rfl); rw [HCN.out] at h3; cases h3);go_wp2_with fail;go_ret
        exact ⟨by rw [HF.out]; rfl,HU.out.b⟩
       | false =>
        have HN2:=HN3.out ⟨⟨fun h => (by rw [HXE.out] at h; have:=HBQ.out.2 h; cases this),fun h => (by rw [HCN.out] at h; cases h)⟩,by rw [HCN.out]; omega,fun h => by have h1:=h.1; rw [HCN.out] at h1; cases h1⟩;have p2_:=HU.out.x.cell 2;go_wp2_with fail
        go_quiet (fail)
        go_wp2_with fail;go_roundw
        case rel => exact ⟨k + 1,by go_num,by omega,HN2,qz (HU.out.step (below_drewN _))⟩
        case measure => simp [intOf]; omega
      ·
       have HF:=HFF2.out (fun h => by have h3:=h.2.1; rw [HCN.out] at h3; omega);have c1b:((cn:Int) == 1) = false:=by rw [beq_eq_false_iff_ne]; omega
       have c2b:(1:Int) < (cn:Int):=by omega
       cases bq with
       | true =>
        go_wp2_with fail;go_ret
        exact ⟨by rw [HF.out]; rfl,HU.out.b⟩
       | false =>
        go_wp2_with fail;go_ret;exact ⟨by rw [HF.out]; rfl,HU.out.b⟩
  ·
   obtain rfl:k = n2:=by omega
   have h1:¬ (k:Int) < (k:Int):=by omega
   have p4_:=HW.out.x.cell 4;go_wp2_with fail;go_loopw [6] (fun i wm => ∃ m:Nat,i = .int .i64 (m:Int)/\m<=n4/\Hid (∀ j,j < m->0<=gt14 S.Q j/\gt14 S.Q j < (k:Int))/\Hid (Bx14 w S A0 A1 A2 A3 A4 n0 n1 k n3 n4 c0 c1 c2 c3 c4 sq wm)) (fun i _ => n4 - (intOf i).toNat)
   case atStart => exact ⟨0,rfl,by omega,qz (fun j h => by omega),HW⟩
   case round =>
    clear HW p4_ t0_;obtain ⟨m,rfl,hm,HM,HW⟩:=hrel
    rename_i wq
    have p2_:=HW.out.x.cell 2;have p4_:=HW.out.x.cell 4;by_cases hmn:m < n4
    ·
     obtain ⟨a4,of4,hA4,_,hq4⟩:=Lq.at_ len14I (by omega) HW.out.s.r4 (show m < S.Q.length by rw [HW.out.s.l4]; omega);subst hA4;obtain ⟨y,hy⟩:=exq (gt14 S.Q m);have HY:=qz hy;rw [hy] at hq4;have e4:wr.cell? ⟨a4,of4 + m,none⟩ = some (.int .i64 y):=by have h:=hq4 0 _ rfl; rwa [Nat.mul_one] at h
     have i0:(0:Int)<=(m:Int):=by omega
     have i1:(m:Int) < (n4:Int):=by omega
     have HFY:=qz (fun (h2:¬ (0<=y/\y < (k:Int))) => (show Hid (b = false) from qz (bool14_of HBT.out (fun h => h2 (by
      have h3:=h.2 m (by rw [HLQ.out]; exact hmn)
      rwa [HY.out,HLH.out] at h3)))))
     clear hq4 hy;by_cases y0:y < 0
     ·
      have HF:=HFY.out (by omega);go_wp2_with fail
      go_region
      go_wp2_with fail;go_ret;exact ⟨by rw [HF.out]; rfl,(HW.out.step (Below.refl _ _).drew).b⟩
     ·
      have y0b:decide (y < 0) = false:=decide_eq_false y0;by_cases y1:(k:Int)<=y
      ·
       have HF:=HFY.out (by omega);go_wp2_with fail
       go_region
       go_wp2_with fail;go_ret;exact ⟨by rw [HF.out]; rfl,(HW.out.step (Below.refl _ _).drew).b⟩
      ·
       have HM2:Hid (∀ j,j < m + 1->0<=gt14 S.Q j/\gt14 S.Q j < (k:Int)):=qz (fun j hj => by
        rcases (show j < m\/j = m by omega) with h5 | h5
        · exact HM.out j h5
        · rw [h5,HY.out]; omega)
       go_wp2_with fail
       go_region
       go_wp2_with fail;go_roundw
       case rel => exact ⟨m + 1,by go_num,by omega,HM2,qz (HW.out.step (Below.refl _ _).drew)⟩
       case measure => simp [intOf]; omega
    ·
     obtain rfl:m = n4:=by omega
     have HT:Hid (b = true):=qz (HBT.out.2 ⟨fun i hi => by
      rw [HLQ.out];exact HN.out i (by rw [HLH.out] at hi; exact hi),fun j hj => by
      rw [HLH.out]
      exact HM.out j (by rw [HLQ.out] at hj; exact hj)⟩)
     have h2:¬ (m:Int) < (m:Int):=by omega
     go_wp2_with fail;go_ret;exact ⟨by rw [HT.out]; rfl,HW.out.b⟩
end
end Go.Proofs.YtkdmnlihpebbkaaGreat
