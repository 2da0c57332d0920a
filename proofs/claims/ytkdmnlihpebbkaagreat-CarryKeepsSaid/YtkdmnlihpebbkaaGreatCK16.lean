import Derived.Test.YtkdmnlihpebbkaaGreatCK15
set_option linter.all false
set_option maxHeartbeats 4000000
namespace Go.Proofs.YtkdmnlihpebbkaaGreat
section
open Go.RowKit
set_option maxRecDepth 100000
def cnt14 (xs:List Int) (x:Int):Nat->Nat
 | 0 => 0
 | k + 1 => cnt14 xs x k + if gt14 xs k = x then 1 else 0
theorem cnt14_le (xs:List Int) (x:Int) (k:Nat):cnt14 xs x k<=k:=by
 induction k with
 | zero => exact Nat.le_refl _
 | succ k ih => rw [cnt14]; split <;> omega
theorem cnt14_take (xs:List Int) (x:Int) (k:Nat) (hk:k<=xs.length):cnt14 xs x k = (xs.take k).count x:=by
 induction k with
 | zero => simp [cnt14]
 | succ k ih =>
  rw [cnt14,ih (by omega),List.take_add_one,List.getElem?_eq_getElem (by omega),List.count_append,gt14_in (by omega)];simp [List.count_singleton]
theorem cnt14_all (xs:List Int) (x:Int):cnt14 xs x xs.length = xs.count x:=by
 rw [cnt14_take _ _ _ (Nat.le_refl _),List.take_length]
theorem want14_mem (S:Sv14) (n:Nat) (x:Int):x∈want14 S n↔∃ i:Nat,i < n/\Queues14 S i (gt14 S.H i)/\x = (i:Int):=by
 induction n with
 | zero => simp [want14]
 | succ n ih =>
  rw [want14,List.mem_append,ih];constructor
  ·
   rintro (⟨i,h1,h2,h3⟩ | h)
   · exact ⟨i,by omega,h2,h3⟩
   ·
    split at h
    · exact ⟨n,by omega,by assumption,by simpa using h⟩
    · cases h
  ·
   rintro ⟨i,h1,h2,h3⟩;rcases (show i < n\/i = n by omega) with h | h
   · exact .inl ⟨i,h,h2,h3⟩
   ·
    subst h;exact .inr (by rw [if_pos h2]; simp [h3])
theorem want14_up (S:Sv14) (n:Nat):(want14 S n).Pairwise (fun a b => a < b):=by
 induction n with
 | zero => exact List.Pairwise.nil
 | succ n ih =>
  rw [want14,List.pairwise_append];refine ⟨ih,by split <;> simp,fun a ha b hb => ?_⟩;obtain ⟨i,h1,_,h3⟩:=(want14_mem S n a).1 ha;split at hb
  ·
   have h4:b = (n:Int):=by simpa using hb
   omega
  · cases hb
theorem count14_le {xs:List Int} (h:xs.Pairwise (fun a b => a < b)) (x:Int):xs.count x = if x∈xs then 1 else 0:=by
 have hn:xs.Nodup:=h.imp (fun h1 h2 => by omega);split
 ·
  rename_i hm
  rw [List.Nodup.count hn,if_pos hm]
 ·
  rename_i hm
  exact List.count_eq_zero.2 hm
theorem srt14_perm (xs:List Int):(srt14 xs).Perm xs:=List.mergeSort_perm _ _
theorem srt14_up (xs:List Int):(srt14 xs).Pairwise (fun a b => a<=b):=by
 have h:=List.pairwise_mergeSort (le:=fun x y:Int => decide (x<=y)) (fun a b c h1 h2 => by simp at *; omega) (fun a b => by simp; omega) xs;exact h.imp (fun h => by simpa using h)
theorem srt14_want (S:Sv14) (xs:List Int) (n:Nat):srt14 xs = want14 S n↔∀ x:Int,xs.count x = if x∈want14 S n then 1 else 0:=by
 constructor
 ·
  intro h x;rw [<- count14_le (want14_up S n),<- h];exact ((srt14_perm xs).count_eq x).symm
 ·
  intro h;refine List.Perm.eq_of_pairwise (le:=fun a b:Int => a<=b) (fun a b _ _ h1 h2 => by omega) (srt14_up xs) ((want14_up S n).imp (fun h => by omega)) ?_;refine (srt14_perm xs).trans (List.perm_iff_count.2 (fun x => ?_));rw [h x,count14_le (want14_up S n)]
def RQueue14 (S:Sv14):Prop:=(∀ i:Nat,i < S.H.length->(Queues14 S i (gt14 S.H i)↔cnt14 S.Q (i:Int) S.Q.length = 1)/\cnt14 S.Q (i:Int) S.Q.length<=1/\¬ (cnt14 S.Q (i:Int) S.Q.length = 1/\Heard14 S (gt14 S.H i)))/\∀ k,k < S.Q.length->0<=gt14 S.Q k/\gt14 S.Q k < (S.H.length:Int)
theorem rqueue14_iff (S:Sv14) (h32:S.H.length<=32):RQueue14 S↔Queue14 S:=by
 constructor
 ·
  rintro ⟨h1,h2⟩
  have hs:srt14 S.Q = want14 S S.H.length:=by
   rw [srt14_want];intro x;by_cases hx:∃ i:Nat,i < S.H.length/\x = (i:Int)
   ·
    obtain ⟨i,hi,rfl⟩:=hx;have h3:=h1 i hi;rw [cnt14_all] at h3;by_cases hq:Queues14 S i (gt14 S.H i)
    ·
     rw [if_pos ((want14_mem _ _ _).2 ⟨i,hi,hq,rfl⟩)];exact h3.1.1 hq
    ·
     rw [if_neg (fun h => by
      obtain ⟨j,_,h5,h6⟩:=(want14_mem _ _ _).1 h;obtain rfl:i = j:=by omega
      exact hq h5)]
     have h4:¬ List.count (i:Int) S.Q = 1:=fun h => hq (h3.1.2 h)
     have h5:=h3.2.1;omega
   ·
    rw [if_neg (fun h => by
     obtain ⟨j,hj,_,h6⟩:=(want14_mem _ _ _).1 h
     exact hx ⟨j,hj,h6⟩)]
    refine List.count_eq_zero.2 (fun h => hx ?_);obtain ⟨k,hk,rfl⟩:=List.getElem_of_mem h;have h5:=h2 k hk;rw [gt14_in hk] at h5;exact ⟨(S.Q[k]).toNat,by omega,by omega⟩
  refine ⟨?_,fun j hj hq hh => (h1 j hj).2.2 ⟨(h1 j hj).1.1 hq,hh⟩,hs⟩;have h4:=congrArg List.length hs;rw [srt14_len] at h4;have h5:=want14_len S S.H.length;omega
 ·
  rintro ⟨_,h1,hs⟩;have hc:=(srt14_want S S.Q S.H.length).1 hs;refine ⟨fun i hi => ?_,fun k hk => ?_⟩
  ·
   rw [cnt14_all,hc]
   have hw:((i:Int)∈want14 S S.H.length)↔Queues14 S i (gt14 S.H i):=by
    rw [want14_mem];constructor
    ·
     rintro ⟨j,_,h5,h6⟩;obtain rfl:i = j:=by omega
     exact h5
    · exact fun h => ⟨i,hi,h,rfl⟩
   by_cases hq:Queues14 S i (gt14 S.H i)
   ·
    rw [if_pos (hw.2 hq)];exact ⟨by simp [hq],by omega,fun h => h1 i hi hq h.2⟩
   ·
    rw [if_neg (fun h => hq (hw.1 h))];exact ⟨by simp [hq],by omega,fun h => by have:=h.1; omega⟩
  ·
   have hm:gt14 S.Q k∈want14 S S.H.length:=by
    have h3:=hc (gt14 S.Q k);have h4:0 < List.count (gt14 S.Q k) S.Q:=List.count_pos_iff.2 (gt14_mem hk);split at h3
    · assumption
    · omega
   obtain ⟨i,hi,_,h6⟩:=(want14_mem _ _ _).1 hm;omega
theorem rqueue14 (
         v:Value) (S:Sv14) (b:Bool) (w:World) (h:St14 w v S) (h32:S.H.length<=32) (hok:∀ j,j < S.H.length->(gt14 S.H j).s = 4->us14 usH S.H (gt14 S.H j).f = true) (hbt0:b = true↔Queue14 S) :
  Calls Tryz.prog 25 #[v] w fun e w' => e = .returned (.bool b)/\Below w.heap.size w w':=by
 have hbt:=hbt0.trans (rqueue14_iff S h32).symm;obtain ⟨A0,A1,A2,A3,A4,n0,n1,n2,n3,n4,c0,c1,c2,c3,c4,sq,rfl,hs⟩:=h;have HX0:=qz (Bx14.new hs);have HBT:=qz hbt;have hnT:=hs.m1;have hnH:=hs.m2;have hnL:=hs.m3;have HLT:=qz hs.l1;have HLH:=qz hs.l2;have HLL:=qz hs.l3;have HLQ:=qz hs.l4;have hnQ:=hs.m4;have HOK:=qz hok;have t1:=HX0.out.x.cell 2
 clear hs hbt hbt0 h32 hok;go_enter Tryz.func25,Tryz.ntmps25;go_wp2_with fail;clear t1
 go_loopw [3] (fun i wr => ∃ k:Nat,i = .int .i64 (k:Int)/\k<=n2/\Hid (∀ j:Nat,j < k->((Queues14 S j (gt14 S.H j)↔cnt14 S.Q (j:Int) n4 = 1)/\cnt14 S.Q (j:Int) n4<=1/\¬ (cnt14 S.Q (j:Int) n4 = 1/\Heard14 S (gt14 S.H j))))/\Hid (Bx14 w S A0 A1 A2 A3 A4 n0 n1 n2 n3 n4 c0 c1 c2 c3 c4 sq wr)) (fun i _ => n2 - (intOf i).toNat)
 case atStart => exact ⟨0,rfl,by omega,qz (fun j h => by omega),HX0⟩
 case round =>
  obtain ⟨k,rfl,hk,HN,HW⟩:=hrel;have t0_:=HW.out.x.cell 2;by_cases hkn:k < n2
  ·
   skip;have p4_:=HW.out.x.cell 4;go_wp2_with fail;go_loopw [4,5] (fun c i wm => ∃ m:Nat,c = .int .i64 ((cnt14 S.Q (k:Int) m:Nat):Int)/\i = .int .i64 (m:Int)/\m<=n4/\Hid (wr = wm)) (fun _ i _ => n4 - (intOf i).toNat)
   case atStart => exact ⟨0,rfl,rfl,by omega,qz rfl⟩
   case round =>
    obtain ⟨m,rfl,rfl,hm,HWM⟩:=hrel;obtain rfl:=HWM.out;clear HWM;obtain ⟨cn,hcn⟩:=exq (cnt14 S.Q (k:Int) m);have hck:cn<=m:=by rw [<- hcn]; exact cnt14_le _ _ _
    have HCN:=qz hcn;rw [hcn];clear hcn;by_cases hmn:m < n4
    ·
     obtain ⟨a4,of4,hA4,_,hq4⟩:=Lq.at_ len14I (by omega) HW.out.s.r4 (show m < S.Q.length by rw [HW.out.s.l4]; omega);subst hA4;obtain ⟨y,hy⟩:=exq (gt14 S.Q m);rw [hy] at hq4;have e4:wr.cell? ⟨a4,of4 + m,none⟩ = some (.int .i64 y):=by have h:=hq4 0 _ rfl; rwa [Nat.mul_one] at h
     have HC1:Hid (cnt14 S.Q (k:Int) (m + 1) = cn + if y = (k:Int) then 1 else 0):=qz (by rw [cnt14,HCN.out,hy]);have i0:(0:Int)<=(m:Int):=by omega
     have i1:(m:Int) < (n4:Int):=by omega
     have hw1:IntKind.i64.wrap ((cn:Int) + 1) = ((cn + 1:Nat):Int):=by rw [IntKind.wrap_i64]; omega
     clear hq4 hy;by_cases hyk:y = (k:Int)
     ·
      have HC2:Hid (cnt14 S.Q (k:Int) (m + 1) = cn + 1):=qz (by rw [HC1.out,if_pos hyk]);subst hyk;go_wp2_with fail;go_roundw
      case rel => exact ⟨m + 1,by rw [HC2.out]; first | rfl | simp,by go_num,by omega,qz (by first | rfl | trivial)⟩
      case measure => simp [intOf]; omega
     ·
      have hykb:(y == (k:Int)) = false:=by simpa using hyk
      have HC2:Hid (cnt14 S.Q (k:Int) (m + 1) = cn):=qz (by rw [HC1.out,if_neg hyk]; rfl);go_wp2_with fail;go_roundw
      case rel => exact ⟨m + 1,by rw [HC2.out],by go_num,by omega,qz (by first | rfl | trivial)⟩
      case measure => simp [intOf]; omega
    ·
     obtain rfl:m = n4:=by omega
     obtain ⟨x,hx⟩:=exq (gt14 S.H k);obtain ⟨xz,xf,xc,xq,xu⟩:=x;have HXE:=qz hx;have hkl:k < S.H.length:=by rw [HW.out.s.l2]; exact hkn
     have hxo:xz = 4->us14 usH S.H xf = true:=fun h => by have h2:=HOK.out k hkl (by rw [hx]; exact h); rwa [hx] at h2
     have HXO:=qz hxo;obtain ⟨bq,hbq⟩:=ex_bool14 (Queues14 S k (⟨xz,xf,xc,xq,xu⟩:Th14));have HBQ:=qz hbq;have HC:=qz (rqueues14 _ S k xz xf xc xq xu bq wr HW.out.st hkl hx hxo hbq)
     have HN3:=qz (fun h:((Queues14 S k (gt14 S.H k)↔cnt14 S.Q (k:Int) m = 1)/\cnt14 S.Q (k:Int) m<=1/\¬ (cnt14 S.Q (k:Int) m = 1/\Heard14 S (gt14 S.H k))) => (show Hid (∀ j:Nat,j < k + 1->((Queues14 S j (gt14 S.H j)↔cnt14 S.Q (j:Int) m = 1)/\cnt14 S.Q (j:Int) m<=1/\¬ (cnt14 S.Q (j:Int) m = 1/\Heard14 S (gt14 S.H j)))) from qz (fun j hj => by
      rcases (show j < k\/j = k by omega) with h5 | h5
      · exact HN.out j h5
      · rw [h5]; exact h)))
     have HFF2:=qz (fun h2:¬ ((Queues14 S k (gt14 S.H k)↔cnt14 S.Q (k:Int) m = 1)/\cnt14 S.Q (k:Int) m<=1/\¬ (cnt14 S.Q (k:Int) m = 1/\Heard14 S (gt14 S.H k))) => (show Hid (b = false) from qz (bool14_of HBT.out (fun h => h2 (by
      have h3:=h.1 k (by rw [HLH.out]; exact hkn)
      rwa [HLQ.out] at h3)))))
     have h1_:¬ (m:Int) < (m:Int):=by omega
     clear hx hkl hxo hbq;obtain ⟨pA0,pA1,pA2,pA3,pA4,pA5⟩:=ce6 HW.out.x;go_wp2_with fail;refine HC.out.mono ?_;rintro e u ⟨rfl,hb1⟩;have HU:=qz (HW.out.step hb1);clear hb1 HC;by_cases c1:cn = 1
     ·
      subst c1
      cases bq with
      | false =>
       have HF:=HFF2.out (fun h => by have h3:=h.1.2 HCN.out; rw [HXE.out] at h3; have:=HBQ.out.2 h3; cases this);go_wp2_with fail;go_ret
       exact ⟨by rw [HF.out]; rfl,HU.out.b⟩
      | true =>
       obtain ⟨a,of,hA,hab,hq⟩:=Lq.at_ len14H (by omega) HU.out.s.r2 (show k < S.H.length by rw [HLH.out]; exact hkn);subst hA;rw [HXE.out] at hq;have e0:u.cell? ⟨a,of + k * 5,none⟩ = some (.int .i64 xz):=hq 0 _ rfl;have e1:u.cell? ⟨a,of + k * 5 + 1,none⟩ = some (.int .i64 xf):=hq 1 _ rfl;have p2_:=HU.out.x.cell 2;have j0:(0:Int)<=(k:Int):=by omega
       have j1:(k:Int) < (n2:Int):=by omega
       clear hq hab;by_cases z4:xz = 4
       ·
        subst z4;obtain ⟨q,hxq,hql,_,hat⟩:=us14_in def14H (HXO.out rfl);subst hxq;obtain ⟨y,hy⟩:=exq (gt14 S.H q);obtain ⟨yz,yf,yc,yq,yu⟩:=y;have HAT:Hid (at14 usH S.H (q:Int) = ⟨yz,yf,yc,yq,yu⟩):=qz (hat.trans hy);obtain ⟨a2,of2,hA2,_,hq2⟩:=Lq.at_ len14H (by omega) HU.out.s.r2 hql;injection hA2 with hA2
        injection hA2 with ha2 ho2
        subst ha2 ho2;rw [hy] at hq2;have g0:u.cell? ⟨a,of + q * 5,none⟩ = some (.int .i64 yz):=hq2 0 _ rfl;have g1:(0:Int)<=(q:Int):=by omega
        have g2:(q:Int) < (n2:Int):=by rw [HLH.out] at hql; omega
        clear hat hy hq2 hql;by_cases z5:yz = 5
        ·
         subst z5;have HF:=HFF2.out (fun h => h.2.2 ⟨HCN.out,by rw [HXE.out]; exact ⟨rfl,by show (at14 usH S.H (q:Int)).s = 5; rw [HAT.out]⟩⟩);go_wp2_with fail
         go_quiet (fail)
         go_wp2_with fail;go_ret;exact ⟨by rw [HF.out]; rfl,(HU.out.step (below_drewN _)).b⟩
        ·
         have z5b:(yz == 5) = false:=by simpa using z5
         have HN2:=HN3.out ⟨⟨fun _ => HCN.out,fun _ => by rw [HXE.out]; exact HBQ.out.1 rfl⟩,by rw [HCN.out]; omega,fun h => by
          have h3:=h.2;rw [HXE.out] at h3;have h4:(at14 usH S.H (q:Int)).s = 5:=h3.2;rw [HAT.out] at h4
          exact z5 h4⟩
         go_wp2_with fail
         go_quiet (fail)
         go_wp2_with fail;go_roundw
         case rel => exact ⟨k + 1,by go_num,by omega,HN2,qz (HU.out.step (below_drewN _))⟩
         case measure => simp [intOf]; omega
       ·
        have z4b:(xz == 4) = false:=by simpa using z4
        have HN2:=HN3.out ⟨⟨fun _ => HCN.out,fun _ => by rw [HXE.out]; exact HBQ.out.1 rfl⟩,by rw [HCN.out]; omega,fun h => by
         have h3:=h.2;rw [HXE.out] at h3
         exact z4 h3.1⟩
        go_wp2_with fail
        go_quiet (fail)
        go_wp2_with fail;go_roundw
        case rel => exact ⟨k + 1,by go_num,by omega,HN2,qz (HU.out.step (below_drewN _))⟩
        case measure => simp [intOf]; omega
     ·
      by_cases c0:cn = 0
      ·
       subst c0;have c1b:(((0:Nat):Int) == 1) = false:=by decide
       cases bq with
       | true =>
        have HF:=HFF2.out (fun h => by have h3:=h.1.1 (by rw [HXE.out]; exact HBQ.out.1 rfl); rw [HCN.out] at h3; cases h3);go_wp2_with fail;go_ret
        exact ⟨by rw [HF.out]; rfl,HU.out.b⟩
       | false =>
        have HN2:=HN3.out ⟨⟨fun h => (by rw [HXE.out] at h; have:=HBQ.out.2 h; cases this),fun h => (by rw [HCN.out] at h; cases h)⟩,by rw [HCN.out]; omega,fun h => by have h1:=h.1; rw [HCN.out] at h1; cases h1⟩;have p2_:=HU.out.x.cell 2;go_wp2_with fail
        go_quiet (fail)
        go_wp2_with fail;go_roundw
        case rel => exact ⟨k + 1,by go_num,by omega,HN2,qz (HU.out.step (below_drewN _))⟩
        case measure => simp [intOf]; omega
      ·
       have HF:=HFF2.out (fun h => by have h3:=h.2.1; rw [HCN.out] at h3; omega);have c1b:((cn:Int) == 1) = false:=by rw [beq_eq_false_iff_ne]; omega
       have c2b:(1:Int) < (cn:Int):=by omega
       cases bq with
       | true =>
        go_wp2_with fail;go_ret
        exact ⟨by rw [HF.out]; rfl,HU.out.b⟩
       | false =>
        go_wp2_with fail;go_ret;exact ⟨by rw [HF.out]; rfl,HU.out.b⟩
  ·
   obtain rfl:k = n2:=by omega
   have h1:¬ (k:Int) < (k:Int):=by omega
   have p4_:=HW.out.x.cell 4;go_wp2_with fail;go_loopw [6] (fun i wm => ∃ m:Nat,i = .int .i64 (m:Int)/\m<=n4/\Hid (∀ j,j < m->0<=gt14 S.Q j/\gt14 S.Q j < (k:Int))/\Hid (Bx14 w S A0 A1 A2 A3 A4 n0 n1 k n3 n4 c0 c1 c2 c3 c4 sq wm)) (fun i _ => n4 - (intOf i).toNat)
   case atStart => exact ⟨0,rfl,by omega,qz (fun j h => by omega),HW⟩
   case round =>
    clear HW p4_ t0_;obtain ⟨m,rfl,hm,HM,HW⟩:=hrel
    rename_i wq
    have p2_:=HW.out.x.cell 2;have p4_:=HW.out.x.cell 4;by_cases hmn:m < n4
    ·
     obtain ⟨a4,of4,hA4,_,hq4⟩:=Lq.at_ len14I (by omega) HW.out.s.r4 (show m < S.Q.length by rw [HW.out.s.l4]; omega);subst hA4;obtain ⟨y,hy⟩:=exq (gt14 S.Q m);have HY:=qz hy;rw [hy] at hq4;have e4:wr.cell? ⟨a4,of4 + m,none⟩ = some (.int .i64 y):=by have h:=hq4 0 _ rfl; rwa [Nat.mul_one] at h
     have i0:(0:Int)<=(m:Int):=by omega
     have i1:(m:Int) < (n4:Int):=by omega
     have HFY:=qz (fun (h2:¬ (0<=y/\y < (k:Int))) => (show Hid (b = false) from qz (bool14_of HBT.out (fun h => h2 (by
      have h3:=h.2 m (by rw [HLQ.out]; exact hmn)
      rwa [HY.out,HLH.out] at h3)))))
     clear hq4 hy;by_cases y0:y < 0
     ·
      have HF:=HFY.out (by omega);go_wp2_with fail
      go_region
      go_wp2_with fail;go_ret;exact ⟨by rw [HF.out]; rfl,(HW.out.step (Below.refl _ _).drew).b⟩
     ·
      have y0b:decide (y < 0) = false:=decide_eq_false y0;by_cases y1:(k:Int)<=y
      ·
       have HF:=HFY.out (by omega);go_wp2_with fail
       go_region
       go_wp2_with fail;go_ret;exact ⟨by rw [HF.out]; rfl,(HW.out.step (Below.refl _ _).drew).b⟩
      ·
       have HM2:Hid (∀ j,j < m + 1->0<=gt14 S.Q j/\gt14 S.Q j < (k:Int)):=qz (fun j hj => by
        rcases (show j < m\/j = m by omega) with h5 | h5
        · exact HM.out j h5
        · rw [h5,HY.out]; omega)
       go_wp2_with fail
       go_region
       go_wp2_with fail;go_roundw
       case rel => exact ⟨m + 1,by go_num,by omega,HM2,qz (HW.out.step (Below.refl _ _).drew)⟩
       case measure => simp [intOf]; omega
    ·
     obtain rfl:m = n4:=by omega
     have HT:Hid (b = true):=qz (HBT.out.2 ⟨fun i hi => by
      rw [HLQ.out];exact HN.out i (by rw [HLH.out] at hi; exact hi),fun j hj => by
      rw [HLH.out]
      exact HM.out j (by rw [HLQ.out] at hj; exact hj)⟩)
     have h2:¬ (m:Int) < (m:Int):=by omega
     go_wp2_with fail;go_ret;exact ⟨by rw [HT.out]; rfl,HW.out.b⟩
theorem rdring14 (n:Nat) (hn:n<=4096) (Ad:Option Addr) (l:List (Int × Int)) (c:Nat) (b:Bool) (w:World) (hr:Aq w w.heap.size Ad l) (hm:l.length<=1000000) (hb:b = true↔Free14R n l) :
  Calls Tryz.prog 26 #[.int .i64 (n:Int),.slice Ad l.length c] w fun e w' => e = .returned (.bool (!b))/\Below w.heap.size w w':=by
 obtain ⟨os,hd⟩:=done13_ex (cut13 n l) n;have h:=rring13_any n Ad l l.length c os w rfl hr hm (by omega) hd
 rwa [show decide (os.length = n) = b by rw [Bool.eq_iff_iff,decide_eq_true_iff,hb,free14R_iff hd]] at h
theorem rfine14_0 (v:Value) (S:Sv14) (w:World) (h:St14 w v S) (ne:¬ 1<=S.q) :
  Calls Tryz.prog 7 #[v] w fun e w' => e = .returned (.bool false)/\Below w.heap.size w w':=by
 obtain ⟨A0,A1,A2,A3,A4,n0,n1,n2,n3,n4,c0,c1,c2,c3,c4,sq,rfl,hs⟩:=h;have HX:=qz (Bx14.new hs);have hl0:=hs.l0;have hl2:=hs.l2;have hl1:=hs.l1;have hm0:=hs.m0;have hm1:=hs.m1;have hm2:=hs.m2;obtain ⟨W1,hW1⟩:=exq (w.alloc (.cells #[.slice A0 n0 c0,.slice A1 n1 c1,.slice A2 n2 c2,.slice A3 n3 c3,.slice A4 n4 c4,.int .i64 sq] 28));rw [hW1] at HX
 have q0:=HX.out.x.cell 0;have q5:=HX.out.x.cell 5;have g0:sq < 1:=by rw [<- hs.e]; omega
 clear hs ne hl0 hl1 hl2 hm0 hm1 hm2;go_enter Tryz.func7,Tryz.ntmps7;go_wp2_with fail;go_ret;exact ⟨rfl,HX.out.b⟩
theorem rfine14_1 (v:Value) (S:Sv14) (w:World) (h:St14 w v S) (e0:1<=S.q) (ne:¬ S.q<=1000) :
  Calls Tryz.prog 7 #[v] w fun e w' => e = .returned (.bool false)/\Below w.heap.size w w':=by
 obtain ⟨A0,A1,A2,A3,A4,n0,n1,n2,n3,n4,c0,c1,c2,c3,c4,sq,rfl,hs⟩:=h;have HX:=qz (Bx14.new hs);have hl0:=hs.l0;have hl2:=hs.l2;have hl1:=hs.l1;have hm0:=hs.m0;have hm1:=hs.m1;have hm2:=hs.m2;obtain ⟨W1,hW1⟩:=exq (w.alloc (.cells #[.slice A0 n0 c0,.slice A1 n1 c1,.slice A2 n2 c2,.slice A3 n3 c3,.slice A4 n4 c4,.int .i64 sq] 28));rw [hW1] at HX
 have q0:=HX.out.x.cell 0;have q5:=HX.out.x.cell 5;have g0:¬ sq < 1:=by rw [<- hs.e]; omega
 have g1:1000 < sq:=by rw [<- hs.e]; omega
 clear hs e0 ne hl0 hl1 hl2 hm0 hm1 hm2;go_enter Tryz.func7,Tryz.ntmps7;go_wp2_with fail;go_ret;exact ⟨rfl,HX.out.b⟩
theorem rfine14_2 (v:Value) (S:Sv14) (w:World) (h:St14 w v S) (e0:1<=S.q) (e1:S.q<=1000) (ne:¬ 1<=S.C.length) :
  Calls Tryz.prog 7 #[v] w fun e w' => e = .returned (.bool false)/\Below w.heap.size w w':=by
 obtain ⟨A0,A1,A2,A3,A4,n0,n1,n2,n3,n4,c0,c1,c2,c3,c4,sq,rfl,hs⟩:=h;have HX:=qz (Bx14.new hs);have hl0:=hs.l0;have hl2:=hs.l2;have hl1:=hs.l1;have hm0:=hs.m0;have hm1:=hs.m1;have hm2:=hs.m2;obtain ⟨W1,hW1⟩:=exq (w.alloc (.cells #[.slice A0 n0 c0,.slice A1 n1 c1,.slice A2 n2 c2,.slice A3 n3 c3,.slice A4 n4 c4,.int .i64 sq] 28));rw [hW1] at HX
 have q0:=HX.out.x.cell 0;have q5:=HX.out.x.cell 5;have g0:¬ sq < 1:=by rw [<- hs.e]; omega
 have g1:¬ 1000 < sq:=by rw [<- hs.e]; omega
 have g2:(n0:Int) < 1:=by rw [<- hl0]; omega
 clear hs e0 e1 ne hl0 hl1 hl2 hm0 hm1 hm2;go_enter Tryz.func7,Tryz.ntmps7;go_wp2_with fail;go_ret;exact ⟨rfl,HX.out.b⟩
theorem rfine14_3 (v:Value) (S:Sv14) (w:World) (h:St14 w v S) (e0:1<=S.q) (e1:S.q<=1000) (e2:1<=S.C.length) (ne:¬ S.C.length<=16) :
  Calls Tryz.prog 7 #[v] w fun e w' => e = .returned (.bool false)/\Below w.heap.size w w':=by
 obtain ⟨A0,A1,A2,A3,A4,n0,n1,n2,n3,n4,c0,c1,c2,c3,c4,sq,rfl,hs⟩:=h;have HX:=qz (Bx14.new hs);have hl0:=hs.l0;have hl2:=hs.l2;have hl1:=hs.l1;have hm0:=hs.m0;have hm1:=hs.m1;have hm2:=hs.m2;obtain ⟨W1,hW1⟩:=exq (w.alloc (.cells #[.slice A0 n0 c0,.slice A1 n1 c1,.slice A2 n2 c2,.slice A3 n3 c3,.slice A4 n4 c4,.int .i64 sq] 28));rw [hW1] at HX
 have q0:=HX.out.x.cell 0;have q5:=HX.out.x.cell 5;have g0:¬ sq < 1:=by rw [<- hs.e]; omega
 have g1:¬ 1000 < sq:=by rw [<- hs.e]; omega
 have g2:¬ (n0:Int) < 1:=by rw [<- hl0]; omega
 have g3:16 < (n0:Int):=by rw [<- hl0]; omega
 clear hs e0 e1 e2 ne hl0 hl1 hl2 hm0 hm1 hm2;go_enter Tryz.func7,Tryz.ntmps7;go_wp2_with fail;go_ret;exact ⟨rfl,HX.out.b⟩
theorem rfine14_4 (v:Value) (S:Sv14) (w:World) (h:St14 w v S) (e0:1<=S.q) (e1:S.q<=1000) (e2:1<=S.C.length) (e3:S.C.length<=16) (ne:¬ gt14 S.C 0 = true) :
  Calls Tryz.prog 7 #[v] w fun e w' => e = .returned (.bool false)/\Below w.heap.size w w':=by
 obtain ⟨A0,A1,A2,A3,A4,n0,n1,n2,n3,n4,c0,c1,c2,c3,c4,sq,rfl,hs⟩:=h;have HX:=qz (Bx14.new hs);have hl0:=hs.l0;have hl2:=hs.l2;have hl1:=hs.l1;have hm0:=hs.m0;have hm1:=hs.m1;have hm2:=hs.m2;obtain ⟨W1,hW1⟩:=exq (w.alloc (.cells #[.slice A0 n0 c0,.slice A1 n1 c1,.slice A2 n2 c2,.slice A3 n3 c3,.slice A4 n4 c4,.int .i64 sq] 28));rw [hW1] at HX
 have q0:=HX.out.x.cell 0;have q5:=HX.out.x.cell 5;have g0:¬ sq < 1:=by rw [<- hs.e]; omega
 have g1:¬ 1000 < sq:=by rw [<- hs.e]; omega
 have g2:¬ (n0:Int) < 1:=by rw [<- hl0]; omega
 have g3:¬ 16 < (n0:Int):=by rw [<- hl0]; omega
 obtain ⟨q,hq0⟩:∃ q,n0 = q + 1:=⟨n0 - 1,by omega⟩
 obtain ⟨a,of,hA,hab,hq⟩:=Lq.at_ len14C (by omega) HX.out.s.r0 (show q < S.C.length by omega);obtain ⟨a',of',hA',hab',hq'⟩:=Lq.at_ len14C (by omega) HX.out.s.r0 (show 0 < S.C.length by omega);rw [hA] at hA';injection hA' with hA'
 injection hA' with ha2 ho2
 subst ha2 ho2;obtain ⟨x0,hx0⟩:=exq (gt14 S.C 0);obtain ⟨x1,hx1⟩:=exq (gt14 S.C q);rw [hx1] at hq;rw [hx0] at hq';have f0:W1.cell? ⟨a,of,none⟩ = some (.bool x0):=by have h:=hq' 0 _ rfl; rwa [Nat.mul_one] at h
 have f1:W1.cell? ⟨a,of + q,none⟩ = some (.bool x1):=by have h:=hq 0 _ rfl; rwa [Nat.mul_one] at h
 have hw:IntKind.i64.wrap ((n0:Int) - 1) = (q:Int):=by rw [IntKind.wrap_i64]; omega
 have i0:(0:Int)<=(q:Int):=by omega
 have i1:(q:Int) < (n0:Int):=by omega
 have i2:(0:Int) < (n0:Int):=by omega
 obtain rfl:x0 = false:=by rw [<- hx0]; simpa using ne
 clear hq hq' hx0 hx1 hab hab';clear hs e0 e1 e2 e3 ne hl0 hl1 hl2 hm0 hm1 hm2 hq0;have HA:=qz hA;subst hA;go_enter Tryz.func7,Tryz.ntmps7;go_wp2_with fail;go_ret;exact ⟨rfl,HX.out.b⟩
theorem rfine14_5 (v:Value) (S:Sv14) (w:World) (h:St14 w v S) (e0:1<=S.q) (e1:S.q<=1000) (e2:1<=S.C.length) (e3:S.C.length<=16) (e4:gt14 S.C 0 = true) (ne:¬ gt14 S.C (S.C.length - 1) = true) :
  Calls Tryz.prog 7 #[v] w fun e w' => e = .returned (.bool false)/\Below w.heap.size w w':=by
 obtain ⟨A0,A1,A2,A3,A4,n0,n1,n2,n3,n4,c0,c1,c2,c3,c4,sq,rfl,hs⟩:=h;have HX:=qz (Bx14.new hs);have hl0:=hs.l0;have hl2:=hs.l2;have hl1:=hs.l1;have hm0:=hs.m0;have hm1:=hs.m1;have hm2:=hs.m2;obtain ⟨W1,hW1⟩:=exq (w.alloc (.cells #[.slice A0 n0 c0,.slice A1 n1 c1,.slice A2 n2 c2,.slice A3 n3 c3,.slice A4 n4 c4,.int .i64 sq] 28));rw [hW1] at HX
 have q0:=HX.out.x.cell 0;have q5:=HX.out.x.cell 5;have g0:¬ sq < 1:=by rw [<- hs.e]; omega
 have g1:¬ 1000 < sq:=by rw [<- hs.e]; omega
 have g2:¬ (n0:Int) < 1:=by rw [<- hl0]; omega
 have g3:¬ 16 < (n0:Int):=by rw [<- hl0]; omega
 obtain ⟨q,hq0⟩:∃ q,n0 = q + 1:=⟨n0 - 1,by omega⟩
 obtain ⟨a,of,hA,hab,hq⟩:=Lq.at_ len14C (by omega) HX.out.s.r0 (show q < S.C.length by omega);obtain ⟨a',of',hA',hab',hq'⟩:=Lq.at_ len14C (by omega) HX.out.s.r0 (show 0 < S.C.length by omega);rw [hA] at hA';injection hA' with hA'
 injection hA' with ha2 ho2
 subst ha2 ho2;obtain ⟨x0,hx0⟩:=exq (gt14 S.C 0);obtain ⟨x1,hx1⟩:=exq (gt14 S.C q);rw [hx1] at hq;rw [hx0] at hq';have f0:W1.cell? ⟨a,of,none⟩ = some (.bool x0):=by have h:=hq' 0 _ rfl; rwa [Nat.mul_one] at h
 have f1:W1.cell? ⟨a,of + q,none⟩ = some (.bool x1):=by have h:=hq 0 _ rfl; rwa [Nat.mul_one] at h
 have hw:IntKind.i64.wrap ((n0:Int) - 1) = (q:Int):=by rw [IntKind.wrap_i64]; omega
 have i0:(0:Int)<=(q:Int):=by omega
 have i1:(q:Int) < (n0:Int):=by omega
 have i2:(0:Int) < (n0:Int):=by omega
 obtain rfl:x0 = true:=by rw [<- hx0]; simpa using e4
 obtain rfl:x1 = false:=by rw [<- hx1,show q = S.C.length - 1 by omega]; simpa using ne
 clear hq hq' hx0 hx1 hab hab';clear hs e0 e1 e2 e3 e4 ne hl0 hl1 hl2 hm0 hm1 hm2 hq0;have HA:=qz hA;subst hA;go_enter Tryz.func7,Tryz.ntmps7;go_wp2_with fail;go_ret;exact ⟨rfl,HX.out.b⟩
theorem rfine14_6 (v:Value) (S:Sv14) (w:World) (h:St14 w v S) (e0:1<=S.q) (e1:S.q<=1000) (e2:1<=S.C.length) (e3:S.C.length<=16) (e4:gt14 S.C 0 = true) (e5:gt14 S.C (S.C.length - 1) = true) (ne:¬ RTickets14 S) :
  Calls Tryz.prog 7 #[v] w fun e w' => e = .returned (.bool false)/\Below w.heap.size w w':=by
 obtain ⟨A0,A1,A2,A3,A4,n0,n1,n2,n3,n4,c0,c1,c2,c3,c4,sq,rfl,hs⟩:=h;have HX:=qz (Bx14.new hs);have hl0:=hs.l0;have hl2:=hs.l2;have hl1:=hs.l1;have hm0:=hs.m0;have hm1:=hs.m1;have hm2:=hs.m2;obtain ⟨W1,hW1⟩:=exq (w.alloc (.cells #[.slice A0 n0 c0,.slice A1 n1 c1,.slice A2 n2 c2,.slice A3 n3 c3,.slice A4 n4 c4,.int .i64 sq] 28));rw [hW1] at HX
 have q0:=HX.out.x.cell 0;have q5:=HX.out.x.cell 5;have g0:¬ sq < 1:=by rw [<- hs.e]; omega
 have g1:¬ 1000 < sq:=by rw [<- hs.e]; omega
 have g2:¬ (n0:Int) < 1:=by rw [<- hl0]; omega
 have g3:¬ 16 < (n0:Int):=by rw [<- hl0]; omega
 obtain ⟨q,hq0⟩:∃ q,n0 = q + 1:=⟨n0 - 1,by omega⟩
 obtain ⟨a,of,hA,hab,hq⟩:=Lq.at_ len14C (by omega) HX.out.s.r0 (show q < S.C.length by omega);obtain ⟨a',of',hA',hab',hq'⟩:=Lq.at_ len14C (by omega) HX.out.s.r0 (show 0 < S.C.length by omega);rw [hA] at hA';injection hA' with hA'
 injection hA' with ha2 ho2
 subst ha2 ho2;obtain ⟨x0,hx0⟩:=exq (gt14 S.C 0);obtain ⟨x1,hx1⟩:=exq (gt14 S.C q);rw [hx1] at hq;rw [hx0] at hq';have f0:W1.cell? ⟨a,of,none⟩ = some (.bool x0):=by have h:=hq' 0 _ rfl; rwa [Nat.mul_one] at h
 have f1:W1.cell? ⟨a,of + q,none⟩ = some (.bool x1):=by have h:=hq 0 _ rfl; rwa [Nat.mul_one] at h
 have hw:IntKind.i64.wrap ((n0:Int) - 1) = (q:Int):=by rw [IntKind.wrap_i64]; omega
 have i0:(0:Int)<=(q:Int):=by omega
 have i1:(q:Int) < (n0:Int):=by omega
 have i2:(0:Int) < (n0:Int):=by omega
 obtain rfl:x0 = true:=by rw [<- hx0]; simpa using e4
 obtain rfl:x1 = true:=by rw [<- hx1,show q = S.C.length - 1 by omega]; simpa using e5
 clear hq hq' hx0 hx1 hab hab';have HC6:=qz (fun W (h:Bx14 w S A0 A1 A2 A3 A4 n0 n1 n2 n3 n4 c0 c1 c2 c3 c4 sq W) => rtickets14 _ S false W h.st (by simp [ne]));clear hs e0 e1 e2 e3 e4 e5 ne hl0 hl1 hl2 hm0 hm1 hm2 hq0;have HA:=qz hA;subst hA;go_enter Tryz.func7,Tryz.ntmps7;obtain ⟨c6_0,c6_1,c6_2,c6_3,c6_4,c6_5⟩:=ce6 HX.out.x;go_wp2_with fail
 refine (HC6.out _ HX.out).mono ?_;rintro e w6 ⟨rfl,hb6⟩;have HX6:=qz (HX.out.step hb6);clear HC6 hb6;go_wp2_with fail;go_ret;exact ⟨rfl,HX6.out.b⟩
theorem rfine14_7 (v:Value) (S:Sv14) (w:World) (h:St14 w v S) (e0:1<=S.q) (e1:S.q<=1000) (e2:1<=S.C.length) (e3:S.C.length<=16) (e4:gt14 S.C 0 = true) (e5:gt14 S.C (S.C.length - 1) = true) (e6:RTickets14 S) (ne:¬ RThreads14 S) :
  Calls Tryz.prog 7 #[v] w fun e w' => e = .returned (.bool false)/\Below w.heap.size w w':=by
 obtain ⟨A0,A1,A2,A3,A4,n0,n1,n2,n3,n4,c0,c1,c2,c3,c4,sq,rfl,hs⟩:=h;have HX:=qz (Bx14.new hs);have hl0:=hs.l0;have hl2:=hs.l2;have hl1:=hs.l1;have hm0:=hs.m0;have hm1:=hs.m1;have hm2:=hs.m2;obtain ⟨W1,hW1⟩:=exq (w.alloc (.cells #[.slice A0 n0 c0,.slice A1 n1 c1,.slice A2 n2 c2,.slice A3 n3 c3,.slice A4 n4 c4,.int .i64 sq] 28));rw [hW1] at HX
 have q0:=HX.out.x.cell 0;have q5:=HX.out.x.cell 5;have g0:¬ sq < 1:=by rw [<- hs.e]; omega
 have g1:¬ 1000 < sq:=by rw [<- hs.e]; omega
 have g2:¬ (n0:Int) < 1:=by rw [<- hl0]; omega
 have g3:¬ 16 < (n0:Int):=by rw [<- hl0]; omega
 obtain ⟨q,hq0⟩:∃ q,n0 = q + 1:=⟨n0 - 1,by omega⟩
 obtain ⟨a,of,hA,hab,hq⟩:=Lq.at_ len14C (by omega) HX.out.s.r0 (show q < S.C.length by omega);obtain ⟨a',of',hA',hab',hq'⟩:=Lq.at_ len14C (by omega) HX.out.s.r0 (show 0 < S.C.length by omega);rw [hA] at hA';injection hA' with hA'
 injection hA' with ha2 ho2
 subst ha2 ho2;obtain ⟨x0,hx0⟩:=exq (gt14 S.C 0);obtain ⟨x1,hx1⟩:=exq (gt14 S.C q);rw [hx1] at hq;rw [hx0] at hq';have f0:W1.cell? ⟨a,of,none⟩ = some (.bool x0):=by have h:=hq' 0 _ rfl; rwa [Nat.mul_one] at h
 have f1:W1.cell? ⟨a,of + q,none⟩ = some (.bool x1):=by have h:=hq 0 _ rfl; rwa [Nat.mul_one] at h
 have hw:IntKind.i64.wrap ((n0:Int) - 1) = (q:Int):=by rw [IntKind.wrap_i64]; omega
 have i0:(0:Int)<=(q:Int):=by omega
 have i1:(q:Int) < (n0:Int):=by omega
 have i2:(0:Int) < (n0:Int):=by omega
 obtain rfl:x0 = true:=by rw [<- hx0]; simpa using e4
 obtain rfl:x1 = true:=by rw [<- hx1,show q = S.C.length - 1 by omega]; simpa using e5
 clear hq hq' hx0 hx1 hab hab';have HC6:=qz (fun W (h:Bx14 w S A0 A1 A2 A3 A4 n0 n1 n2 n3 n4 c0 c1 c2 c3 c4 sq W) => rtickets14 _ S true W h.st (by simp [e6]));have HC7:=qz (fun W (h:Bx14 w S A0 A1 A2 A3 A4 n0 n1 n2 n3 n4 c0 c1 c2 c3 c4 sq W) => rthreads14 _ S false W h.st (by simp [ne]));clear hs e0 e1 e2 e3 e4 e5 e6 ne hl0 hl1 hl2 hm0 hm1 hm2 hq0
 have HA:=qz hA;subst hA;go_enter Tryz.func7,Tryz.ntmps7;obtain ⟨c6_0,c6_1,c6_2,c6_3,c6_4,c6_5⟩:=ce6 HX.out.x;go_wp2_with fail;refine (HC6.out _ HX.out).mono ?_;rintro e w6 ⟨rfl,hb6⟩;have HX6:=qz (HX.out.step hb6);clear HC6 hb6;obtain ⟨c7_0,c7_1,c7_2,c7_3,c7_4,c7_5⟩:=ce6 HX6.out.x;go_wp2_with fail;refine (HC7.out _ HX6.out).mono ?_;rintro e w7 ⟨rfl,hb7⟩
 have HX7:=qz (HX6.out.step hb7);clear HC7 hb7;go_wp2_with fail;go_ret;exact ⟨rfl,HX7.out.b⟩
theorem rfine14_8 (v:Value) (S:Sv14) (w:World) (h:St14 w v S) (e0:1<=S.q) (e1:S.q<=1000) (e2:1<=S.C.length) (e3:S.C.length<=16) (e4:gt14 S.C 0 = true) (e5:gt14 S.C (S.C.length - 1) = true) (e6:RTickets14 S) (e7:RThreads14 S) (ne:¬ RLocks14 S) :
  Calls Tryz.prog 7 #[v] w fun e w' => e = .returned (.bool false)/\Below w.heap.size w w':=by
 obtain ⟨A0,A1,A2,A3,A4,n0,n1,n2,n3,n4,c0,c1,c2,c3,c4,sq,rfl,hs⟩:=h;have HX:=qz (Bx14.new hs);have hl0:=hs.l0;have hl2:=hs.l2;have hl1:=hs.l1;have hm0:=hs.m0;have hm1:=hs.m1;have hm2:=hs.m2;obtain ⟨W1,hW1⟩:=exq (w.alloc (.cells #[.slice A0 n0 c0,.slice A1 n1 c1,.slice A2 n2 c2,.slice A3 n3 c3,.slice A4 n4 c4,.int .i64 sq] 28));rw [hW1] at HX
 have q0:=HX.out.x.cell 0;have q5:=HX.out.x.cell 5;have g0:¬ sq < 1:=by rw [<- hs.e]; omega
 have g1:¬ 1000 < sq:=by rw [<- hs.e]; omega
 have g2:¬ (n0:Int) < 1:=by rw [<- hl0]; omega
 have g3:¬ 16 < (n0:Int):=by rw [<- hl0]; omega
 obtain ⟨q,hq0⟩:∃ q,n0 = q + 1:=⟨n0 - 1,by omega⟩
 obtain ⟨a,of,hA,hab,hq⟩:=Lq.at_ len14C (by omega) HX.out.s.r0 (show q < S.C.length by omega);obtain ⟨a',of',hA',hab',hq'⟩:=Lq.at_ len14C (by omega) HX.out.s.r0 (show 0 < S.C.length by omega);rw [hA] at hA';injection hA' with hA'
 injection hA' with ha2 ho2
 subst ha2 ho2;obtain ⟨x0,hx0⟩:=exq (gt14 S.C 0);obtain ⟨x1,hx1⟩:=exq (gt14 S.C q);rw [hx1] at hq;rw [hx0] at hq';have f0:W1.cell? ⟨a,of,none⟩ = some (.bool x0):=by have h:=hq' 0 _ rfl; rwa [Nat.mul_one] at h
 have f1:W1.cell? ⟨a,of + q,none⟩ = some (.bool x1):=by have h:=hq 0 _ rfl; rwa [Nat.mul_one] at h
 have hw:IntKind.i64.wrap ((n0:Int) - 1) = (q:Int):=by rw [IntKind.wrap_i64]; omega
 have i0:(0:Int)<=(q:Int):=by omega
 have i1:(q:Int) < (n0:Int):=by omega
 have i2:(0:Int) < (n0:Int):=by omega
 obtain rfl:x0 = true:=by rw [<- hx0]; simpa using e4
 obtain rfl:x1 = true:=by rw [<- hx1,show q = S.C.length - 1 by omega]; simpa using e5
 clear hq hq' hx0 hx1 hab hab';have HC6:=qz (fun W (h:Bx14 w S A0 A1 A2 A3 A4 n0 n1 n2 n3 n4 c0 c1 c2 c3 c4 sq W) => rtickets14 _ S true W h.st (by simp [e6]));have HC7:=qz (fun W (h:Bx14 w S A0 A1 A2 A3 A4 n0 n1 n2 n3 n4 c0 c1 c2 c3 c4 sq W) => rthreads14 _ S true W h.st (by simp [e7]))
 have HC8:=qz (fun W (h:Bx14 w S A0 A1 A2 A3 A4 n0 n1 n2 n3 n4 c0 c1 c2 c3 c4 sq W) => rlocks14 _ S false W h.st (by simp [ne]));clear hs e0 e1 e2 e3 e4 e5 e6 e7 ne hl0 hl1 hl2 hm0 hm1 hm2 hq0;have HA:=qz hA;subst hA;go_enter Tryz.func7,Tryz.ntmps7;obtain ⟨c6_0,c6_1,c6_2,c6_3,c6_4,c6_5⟩:=ce6 HX.out.x;go_wp2_with fail;refine (HC6.out _ HX.out).mono ?_
 rintro e w6 ⟨rfl,hb6⟩;have HX6:=qz (HX.out.step hb6);clear HC6 hb6;obtain ⟨c7_0,c7_1,c7_2,c7_3,c7_4,c7_5⟩:=ce6 HX6.out.x;go_wp2_with fail;refine (HC7.out _ HX6.out).mono ?_;rintro e w7 ⟨rfl,hb7⟩;have HX7:=qz (HX6.out.step hb7);clear HC7 hb7;obtain ⟨c8_0,c8_1,c8_2,c8_3,c8_4,c8_5⟩:=ce6 HX7.out.x;go_wp2_with fail;refine (HC8.out _ HX7.out).mono ?_
 rintro e w8 ⟨rfl,hb8⟩;have HX8:=qz (HX7.out.step hb8);clear HC8 hb8;go_wp2_with fail;go_ret;exact ⟨rfl,HX8.out.b⟩
theorem rfine14_9 (v:Value) (S:Sv14) (w:World) (h:St14 w v S) (e0:1<=S.q) (e1:S.q<=1000) (e2:1<=S.C.length) (e3:S.C.length<=16) (e4:gt14 S.C 0 = true) (e5:gt14 S.C (S.C.length - 1) = true) (e6:RTickets14 S) (e7:RThreads14 S) (e8:RLocks14 S) (ne:¬ Queue14 S) :
  Calls Tryz.prog 7 #[v] w fun e w' => e = .returned (.bool false)/\Below w.heap.size w w':=by
 obtain ⟨A0,A1,A2,A3,A4,n0,n1,n2,n3,n4,c0,c1,c2,c3,c4,sq,rfl,hs⟩:=h;have HX:=qz (Bx14.new hs);have hl0:=hs.l0;have hl2:=hs.l2;have hl1:=hs.l1;have hm0:=hs.m0;have hm1:=hs.m1;have hm2:=hs.m2;obtain ⟨W1,hW1⟩:=exq (w.alloc (.cells #[.slice A0 n0 c0,.slice A1 n1 c1,.slice A2 n2 c2,.slice A3 n3 c3,.slice A4 n4 c4,.int .i64 sq] 28));rw [hW1] at HX
 have q0:=HX.out.x.cell 0;have q5:=HX.out.x.cell 5;have g0:¬ sq < 1:=by rw [<- hs.e]; omega
 have g1:¬ 1000 < sq:=by rw [<- hs.e]; omega
 have g2:¬ (n0:Int) < 1:=by rw [<- hl0]; omega
 have g3:¬ 16 < (n0:Int):=by rw [<- hl0]; omega
 obtain ⟨q,hq0⟩:∃ q,n0 = q + 1:=⟨n0 - 1,by omega⟩
 obtain ⟨a,of,hA,hab,hq⟩:=Lq.at_ len14C (by omega) HX.out.s.r0 (show q < S.C.length by omega);obtain ⟨a',of',hA',hab',hq'⟩:=Lq.at_ len14C (by omega) HX.out.s.r0 (show 0 < S.C.length by omega);rw [hA] at hA';injection hA' with hA'
 injection hA' with ha2 ho2
 subst ha2 ho2;obtain ⟨x0,hx0⟩:=exq (gt14 S.C 0);obtain ⟨x1,hx1⟩:=exq (gt14 S.C q);rw [hx1] at hq;rw [hx0] at hq';have f0:W1.cell? ⟨a,of,none⟩ = some (.bool x0):=by have h:=hq' 0 _ rfl; rwa [Nat.mul_one] at h
 have f1:W1.cell? ⟨a,of + q,none⟩ = some (.bool x1):=by have h:=hq 0 _ rfl; rwa [Nat.mul_one] at h
 have hw:IntKind.i64.wrap ((n0:Int) - 1) = (q:Int):=by rw [IntKind.wrap_i64]; omega
 have i0:(0:Int)<=(q:Int):=by omega
 have i1:(q:Int) < (n0:Int):=by omega
 have i2:(0:Int) < (n0:Int):=by omega
 obtain rfl:x0 = true:=by rw [<- hx0]; simpa using e4
 obtain rfl:x1 = true:=by rw [<- hx1,show q = S.C.length - 1 by omega]; simpa using e5
 clear hq hq' hx0 hx1 hab hab';have HC6:=qz (fun W (h:Bx14 w S A0 A1 A2 A3 A4 n0 n1 n2 n3 n4 c0 c1 c2 c3 c4 sq W) => rtickets14 _ S true W h.st (by simp [e6]));have HC7:=qz (fun W (h:Bx14 w S A0 A1 A2 A3 A4 n0 n1 n2 n3 n4 c0 c1 c2 c3 c4 sq W) => rthreads14 _ S true W h.st (by simp [e7]))
 have HC8:=qz (fun W (h:Bx14 w S A0 A1 A2 A3 A4 n0 n1 n2 n3 n4 c0 c1 c2 c3 c4 sq W) => rlocks14 _ S true W h.st (by simp [e8]))
 have hok4:∀ j,j < S.H.length->(gt14 S.H j).s = 4->us14 usH S.H (gt14 S.H j).f = true:=fun j hj h4 => by
  have h5:=(e7.2.1 j hj (by obtain ⟨x,hx⟩:∃ x,gt14 S.H j = x:=⟨_,rfl⟩; rw [hx] at h4 ⊢; simp [usH,h4])).1;rcases h5 with h5 | h5 | h5
  · exact h5.2.1
  · rw [h4] at h5; exact absurd h5.1 (by decide)
  · rw [h4] at h5; exact absurd h5.1 (by decide)
 have HC9:=qz (fun W (h:Bx14 w S A0 A1 A2 A3 A4 n0 n1 n2 n3 n4 c0 c1 c2 c3 c4 sq W) => rqueue14 _ S false W h.st e7.1.1 hok4 (by simp [ne]));clear hs e0 e1 e2 e3 e4 e5 e6 e7 e8 ne hok4 hl0 hl1 hl2 hm0 hm1 hm2 hq0;have HA:=qz hA;subst hA;go_enter Tryz.func7,Tryz.ntmps7;obtain ⟨c6_0,c6_1,c6_2,c6_3,c6_4,c6_5⟩:=ce6 HX.out.x;go_wp2_with fail
 refine (HC6.out _ HX.out).mono ?_;rintro e w6 ⟨rfl,hb6⟩;have HX6:=qz (HX.out.step hb6);clear HC6 hb6;obtain ⟨c7_0,c7_1,c7_2,c7_3,c7_4,c7_5⟩:=ce6 HX6.out.x;go_wp2_with fail;refine (HC7.out _ HX6.out).mono ?_;rintro e w7 ⟨rfl,hb7⟩;have HX7:=qz (HX6.out.step hb7);clear HC7 hb7;obtain ⟨c8_0,c8_1,c8_2,c8_3,c8_4,c8_5⟩:=ce6 HX7.out.x;go_wp2_with fail
 refine (HC8.out _ HX7.out).mono ?_;rintro e w8 ⟨rfl,hb8⟩;have HX8:=qz (HX7.out.step hb8);clear HC8 hb8;obtain ⟨c9_0,c9_1,c9_2,c9_3,c9_4,c9_5⟩:=ce6 HX8.out.x;go_wp2_with fail;refine (HC9.out _ HX8.out).mono ?_;rintro e w9 ⟨rfl,hb9⟩;have HX9:=qz (HX8.out.step hb9);clear HC9 hb9;go_wp2_with fail;go_ret;exact ⟨rfl,HX9.out.b⟩
theorem rfine14_10 (v:Value) (S:Sv14) (w:World) (h:St14 w v S) (e0:1<=S.q) (e1:S.q<=1000) (e2:1<=S.C.length) (e3:S.C.length<=16) (e4:gt14 S.C 0 = true) (e5:gt14 S.C (S.C.length - 1) = true) (e6:RTickets14 S) (e7:RThreads14 S) (e8:RLocks14 S) (e9:Queue14 S) (ne:¬ Free14R S.C.length (cArr14 S S.T.length)) :
  Calls Tryz.prog 7 #[v] w fun e w' => e = .returned (.bool false)/\Below w.heap.size w w':=by
 obtain ⟨A0,A1,A2,A3,A4,n0,n1,n2,n3,n4,c0,c1,c2,c3,c4,sq,rfl,hs⟩:=h;have HX:=qz (Bx14.new hs);have hl0:=hs.l0;have hl2:=hs.l2;have hl1:=hs.l1;have hm0:=hs.m0;have hm1:=hs.m1;have hm2:=hs.m2;obtain ⟨W1,hW1⟩:=exq (w.alloc (.cells #[.slice A0 n0 c0,.slice A1 n1 c1,.slice A2 n2 c2,.slice A3 n3 c3,.slice A4 n4 c4,.int .i64 sq] 28));rw [hW1] at HX
 have q0:=HX.out.x.cell 0;have q5:=HX.out.x.cell 5;have g0:¬ sq < 1:=by rw [<- hs.e]; omega
 have g1:¬ 1000 < sq:=by rw [<- hs.e]; omega
 have g2:¬ (n0:Int) < 1:=by rw [<- hl0]; omega
 have g3:¬ 16 < (n0:Int):=by rw [<- hl0]; omega
 obtain ⟨q,hq0⟩:∃ q,n0 = q + 1:=⟨n0 - 1,by omega⟩
 obtain ⟨a,of,hA,hab,hq⟩:=Lq.at_ len14C (by omega) HX.out.s.r0 (show q < S.C.length by omega);obtain ⟨a',of',hA',hab',hq'⟩:=Lq.at_ len14C (by omega) HX.out.s.r0 (show 0 < S.C.length by omega);rw [hA] at hA';injection hA' with hA'
 injection hA' with ha2 ho2
 subst ha2 ho2;obtain ⟨x0,hx0⟩:=exq (gt14 S.C 0);obtain ⟨x1,hx1⟩:=exq (gt14 S.C q);rw [hx1] at hq;rw [hx0] at hq';have f0:W1.cell? ⟨a,of,none⟩ = some (.bool x0):=by have h:=hq' 0 _ rfl; rwa [Nat.mul_one] at h
 have f1:W1.cell? ⟨a,of + q,none⟩ = some (.bool x1):=by have h:=hq 0 _ rfl; rwa [Nat.mul_one] at h
 have hw:IntKind.i64.wrap ((n0:Int) - 1) = (q:Int):=by rw [IntKind.wrap_i64]; omega
 have i0:(0:Int)<=(q:Int):=by omega
 have i1:(q:Int) < (n0:Int):=by omega
 have i2:(0:Int) < (n0:Int):=by omega
 obtain rfl:x0 = true:=by rw [<- hx0]; simpa using e4
 obtain rfl:x1 = true:=by rw [<- hx1,show q = S.C.length - 1 by omega]; simpa using e5
 clear hq hq' hx0 hx1 hab hab';have HC6:=qz (fun W (h:Bx14 w S A0 A1 A2 A3 A4 n0 n1 n2 n3 n4 c0 c1 c2 c3 c4 sq W) => rtickets14 _ S true W h.st (by simp [e6]));have HC7:=qz (fun W (h:Bx14 w S A0 A1 A2 A3 A4 n0 n1 n2 n3 n4 c0 c1 c2 c3 c4 sq W) => rthreads14 _ S true W h.st (by simp [e7]))
 have HC8:=qz (fun W (h:Bx14 w S A0 A1 A2 A3 A4 n0 n1 n2 n3 n4 c0 c1 c2 c3 c4 sq W) => rlocks14 _ S true W h.st (by simp [e8]))
 have hok4:∀ j,j < S.H.length->(gt14 S.H j).s = 4->us14 usH S.H (gt14 S.H j).f = true:=fun j hj h4 => by
  have h5:=(e7.2.1 j hj (by obtain ⟨x,hx⟩:∃ x,gt14 S.H j = x:=⟨_,rfl⟩; rw [hx] at h4 ⊢; simp [usH,h4])).1;rcases h5 with h5 | h5 | h5
  · exact h5.2.1
  · rw [h4] at h5; exact absurd h5.1 (by decide)
  · rw [h4] at h5; exact absurd h5.1 (by decide)
 have HC9:=qz (fun W (h:Bx14 w S A0 A1 A2 A3 A4 n0 n1 n2 n3 n4 c0 c1 c2 c3 c4 sq W) => rqueue14 _ S true W h.st e7.1.1 hok4 (by simp [e9]));have HCA:=qz (fun W (h:Bx14 w S A0 A1 A2 A3 A4 n0 n1 n2 n3 n4 c0 c1 c2 c3 c4 sq W) => rcoinArrows14 _ S W h.st);have HLA:Hid ((cArr14 S S.T.length).length<=1000000):=qz (by have:=cArr14_len S S.T.length; omega)
 have HRA:=qz (fun W Ad c (hr:Aq W W.heap.size Ad (cArr14 S S.T.length)) => rdring14 n0 (by omega) Ad _ c false W hr HLA.out (by rw [<- hl0]; simp [ne]));clear hs e0 e1 e2 e3 e4 e5 e6 e7 e8 e9 ne hok4 hl0 hl1 hl2 hm0 hm1 hm2 hq0;have HA:=qz hA;subst hA;go_enter Tryz.func7,Tryz.ntmps7;obtain ⟨c6_0,c6_1,c6_2,c6_3,c6_4,c6_5⟩:=ce6 HX.out.x;go_wp2_with fail
 refine (HC6.out _ HX.out).mono ?_;rintro e w6 ⟨rfl,hb6⟩;have HX6:=qz (HX.out.step hb6);clear HC6 hb6;obtain ⟨c7_0,c7_1,c7_2,c7_3,c7_4,c7_5⟩:=ce6 HX6.out.x;go_wp2_with fail;refine (HC7.out _ HX6.out).mono ?_;rintro e w7 ⟨rfl,hb7⟩;have HX7:=qz (HX6.out.step hb7);clear HC7 hb7;obtain ⟨c8_0,c8_1,c8_2,c8_3,c8_4,c8_5⟩:=ce6 HX7.out.x;go_wp2_with fail
 refine (HC8.out _ HX7.out).mono ?_;rintro e w8 ⟨rfl,hb8⟩;have HX8:=qz (HX7.out.step hb8);clear HC8 hb8;obtain ⟨c9_0,c9_1,c9_2,c9_3,c9_4,c9_5⟩:=ce6 HX8.out.x;go_wp2_with fail;refine (HC9.out _ HX8.out).mono ?_;rintro e w9 ⟨rfl,hb9⟩;have HX9:=qz (HX8.out.step hb9);clear HC9 hb9;have HXN:=qz (HX9.out.step (Below.refl _ _).drew);obtain ⟨wn,hwn⟩:=exq w9.drew
 rw [hwn] at HXN;go_wp2_with fail;refine wp_region_held_drew (S:=Bx14 w S (some ⟨a,of,none⟩) A1 A2 A3 A4 n0 n1 n2 n3 n4 c0 c1 c2 c3 c4 sq) (by kernel_rfl) (by rw [hwn]; exact HXN.out) (fun hHeld => ?_);rw [hwn] at hHeld ⊢;clear hwn;have HBS:=HXN;refine tkq 0 ?_;refine tk 1 (v:=?_) (fun W hS => ?_) ?_;rotate_left
 ·
  try try dsimp only at hS
  obtain ⟨z0,z1,z2,z3,z4,z5⟩:=ce6 hS.x;go_simp
  try with_reducible rfl
 try simp only [Act.put,pt1,pt2,pt3]
 refine rdy 2 (fun K hK => ?_);have HBS0:=HBS;go_simp;refine (HCA.out _ HBS0.out).mono ?_;rintro e wn ⟨Ac,cc,rfl,hqa,hb⟩;have HBS:=qz (HBS0.out.step hb);have HQA:=qz hqa;clear hb hqa HBS0;refine koq hK HBS.out (fun hHeld=>?_);clear hK K;refine rdy 3 (fun K hK => ?_);have HBS0:=HBS;go_simp;refine (HRA.out _ Ac cc HQA.out).mono ?_;rintro e wn ⟨rfl,hb⟩
 have HBS:=qz (HBS0.out.step hb);clear hb HBS0 HQA;refine koq hK HBS.out (fun hHeld=>?_);clear hK K;refine tkq 4 ?_;refine tkq 5 ?_;refine sk 6 ?_
 try simp only [Act.put,pt1,pt2,pt3]
 refine sk 7 ?_
 try simp only [Act.put,pt1,pt2,pt3]
 refine sk 8 ?_
 try simp only [Act.put,pt1,pt2,pt3]
 refine sk 9 ?_
 try simp only [Act.put,pt1,pt2,pt3]
 refine sk 10 ?_
 try simp only [Act.put,pt1,pt2,pt3]
 refine sk 11 ?_
 try simp only [Act.put,pt1,pt2,pt3]
 refine sk 12 ?_
 try simp only [Act.put,pt1,pt2,pt3]
 refine tkq 13 ?_;refine rdy 14 (fun K hK => ?_);go_simp;refine koq hK HBS.out (fun hHeld=>?_);clear hK K;refine wpAnyH_done (by kernel_rfl) ?_ _;clear hHeld;go_wp2_with fail;go_ret;exact ⟨rfl,HBS.out.b⟩
theorem rfine14_11 (v:Value) (S:Sv14) (w:World) (h:St14 w v S) (e0:1<=S.q) (e1:S.q<=1000) (e2:1<=S.C.length) (e3:S.C.length<=16) (e4:gt14 S.C 0 = true) (e5:gt14 S.C (S.C.length - 1) = true) (e6:RTickets14 S) (e7:RThreads14 S) (e8:RLocks14 S) (e9:Queue14 S) (e10:Free14R S.C.length (cArr14 S S.T.length)) (b:Bool) (hb:b = true↔Free14R S.H.length (tArr14 S S.H.length)) :
  Calls Tryz.prog 7 #[v] w fun e w' => e = .returned (.bool b)/\Below w.heap.size w w':=by
 obtain ⟨A0,A1,A2,A3,A4,n0,n1,n2,n3,n4,c0,c1,c2,c3,c4,sq,rfl,hs⟩:=h;have HX:=qz (Bx14.new hs);have hl0:=hs.l0;have hl2:=hs.l2;have hl1:=hs.l1;have hm0:=hs.m0;have hm1:=hs.m1;have hm2:=hs.m2;obtain ⟨W1,hW1⟩:=exq (w.alloc (.cells #[.slice A0 n0 c0,.slice A1 n1 c1,.slice A2 n2 c2,.slice A3 n3 c3,.slice A4 n4 c4,.int .i64 sq] 28));rw [hW1] at HX
 have q0:=HX.out.x.cell 0;have q5:=HX.out.x.cell 5;have g0:¬ sq < 1:=by rw [<- hs.e]; omega
 have g1:¬ 1000 < sq:=by rw [<- hs.e]; omega
 have g2:¬ (n0:Int) < 1:=by rw [<- hl0]; omega
 have g3:¬ 16 < (n0:Int):=by rw [<- hl0]; omega
 obtain ⟨q,hq0⟩:∃ q,n0 = q + 1:=⟨n0 - 1,by omega⟩
 obtain ⟨a,of,hA,hab,hq⟩:=Lq.at_ len14C (by omega) HX.out.s.r0 (show q < S.C.length by omega);obtain ⟨a',of',hA',hab',hq'⟩:=Lq.at_ len14C (by omega) HX.out.s.r0 (show 0 < S.C.length by omega);rw [hA] at hA';injection hA' with hA'
 injection hA' with ha2 ho2
 subst ha2 ho2;obtain ⟨x0,hx0⟩:=exq (gt14 S.C 0);obtain ⟨x1,hx1⟩:=exq (gt14 S.C q);rw [hx1] at hq;rw [hx0] at hq';have f0:W1.cell? ⟨a,of,none⟩ = some (.bool x0):=by have h:=hq' 0 _ rfl; rwa [Nat.mul_one] at h
 have f1:W1.cell? ⟨a,of + q,none⟩ = some (.bool x1):=by have h:=hq 0 _ rfl; rwa [Nat.mul_one] at h
 have hw:IntKind.i64.wrap ((n0:Int) - 1) = (q:Int):=by rw [IntKind.wrap_i64]; omega
 have i0:(0:Int)<=(q:Int):=by omega
 have i1:(q:Int) < (n0:Int):=by omega
 have i2:(0:Int) < (n0:Int):=by omega
 obtain rfl:x0 = true:=by rw [<- hx0]; simpa using e4
 obtain rfl:x1 = true:=by rw [<- hx1,show q = S.C.length - 1 by omega]; simpa using e5
 clear hq hq' hx0 hx1 hab hab';have HC6:=qz (fun W (h:Bx14 w S A0 A1 A2 A3 A4 n0 n1 n2 n3 n4 c0 c1 c2 c3 c4 sq W) => rtickets14 _ S true W h.st (by simp [e6]));have HC7:=qz (fun W (h:Bx14 w S A0 A1 A2 A3 A4 n0 n1 n2 n3 n4 c0 c1 c2 c3 c4 sq W) => rthreads14 _ S true W h.st (by simp [e7]))
 have HC8:=qz (fun W (h:Bx14 w S A0 A1 A2 A3 A4 n0 n1 n2 n3 n4 c0 c1 c2 c3 c4 sq W) => rlocks14 _ S true W h.st (by simp [e8]))
 have hok4:∀ j,j < S.H.length->(gt14 S.H j).s = 4->us14 usH S.H (gt14 S.H j).f = true:=fun j hj h4 => by
  have h5:=(e7.2.1 j hj (by obtain ⟨x,hx⟩:∃ x,gt14 S.H j = x:=⟨_,rfl⟩; rw [hx] at h4 ⊢; simp [usH,h4])).1;rcases h5 with h5 | h5 | h5
  · exact h5.2.1
  · rw [h4] at h5; exact absurd h5.1 (by decide)
  · rw [h4] at h5; exact absurd h5.1 (by decide)
 have HC9:=qz (fun W (h:Bx14 w S A0 A1 A2 A3 A4 n0 n1 n2 n3 n4 c0 c1 c2 c3 c4 sq W) => rqueue14 _ S true W h.st e7.1.1 hok4 (by simp [e9]));have HCA:=qz (fun W (h:Bx14 w S A0 A1 A2 A3 A4 n0 n1 n2 n3 n4 c0 c1 c2 c3 c4 sq W) => rcoinArrows14 _ S W h.st);have HLA:Hid ((cArr14 S S.T.length).length<=1000000):=qz (by have:=cArr14_len S S.T.length; omega)
 have HRA:=qz (fun W Ad c (hr:Aq W W.heap.size Ad (cArr14 S S.T.length)) => rdring14 n0 (by omega) Ad _ c true W hr HLA.out (by rw [<- hl0]; simp [e10]))
 have hok6:∀ j,j < S.H.length->(gt14 S.H j).s = 6->us14 usL S.L (gt14 S.H j).f = true:=fun j hj h4 => by
  have h5:=(e7.2.1 j hj (by obtain ⟨x,hx⟩:∃ x,gt14 S.H j = x:=⟨_,rfl⟩; rw [hx] at h4 ⊢; simp [usH,h4])).1;rcases h5 with h5 | h5 | h5
  · rw [h4] at h5; exact absurd h5.1 (by decide)
  · exact h5.2
  · rw [h4] at h5; exact absurd h5.1 (by decide)
 have HCB:=qz (fun W (h:Bx14 w S A0 A1 A2 A3 A4 n0 n1 n2 n3 n4 c0 c1 c2 c3 c4 sq W) => rthreadArrows14 _ S W h.st hok6);have HLB:Hid ((tArr14 S S.H.length).length<=1000000):=qz (by have:=tArr14_len S S.H.length; omega)
 have HRB:=qz (fun W Ad c (hr:Aq W W.heap.size Ad (tArr14 S S.H.length)) => rdring14 n2 (by omega) Ad _ c b W hr HLB.out (by rw [<- hl2]; exact hb));clear hs e0 e1 e2 e3 e4 e5 e6 e7 e8 e9 e10 hb hok4 hok6 hl0 hl1 hl2 hm0 hm1 hm2 hq0;have HA:=qz hA;subst hA;go_enter Tryz.func7,Tryz.ntmps7;obtain ⟨c6_0,c6_1,c6_2,c6_3,c6_4,c6_5⟩:=ce6 HX.out.x;go_wp2_with fail
 refine (HC6.out _ HX.out).mono ?_;rintro e w6 ⟨rfl,hb6⟩;have HX6:=qz (HX.out.step hb6);clear HC6 hb6;obtain ⟨c7_0,c7_1,c7_2,c7_3,c7_4,c7_5⟩:=ce6 HX6.out.x;go_wp2_with fail;refine (HC7.out _ HX6.out).mono ?_;rintro e w7 ⟨rfl,hb7⟩;have HX7:=qz (HX6.out.step hb7);clear HC7 hb7;obtain ⟨c8_0,c8_1,c8_2,c8_3,c8_4,c8_5⟩:=ce6 HX7.out.x;go_wp2_with fail
 refine (HC8.out _ HX7.out).mono ?_;rintro e w8 ⟨rfl,hb8⟩;have HX8:=qz (HX7.out.step hb8);clear HC8 hb8;obtain ⟨c9_0,c9_1,c9_2,c9_3,c9_4,c9_5⟩:=ce6 HX8.out.x;go_wp2_with fail;refine (HC9.out _ HX8.out).mono ?_;rintro e w9 ⟨rfl,hb9⟩;have HX9:=qz (HX8.out.step hb9);clear HC9 hb9;have HXN:=qz (HX9.out.step (Below.refl _ _).drew);obtain ⟨wn,hwn⟩:=exq w9.drew
 rw [hwn] at HXN;go_wp2_with fail;refine wp_region_held_drew (S:=Bx14 w S (some ⟨a,of,none⟩) A1 A2 A3 A4 n0 n1 n2 n3 n4 c0 c1 c2 c3 c4 sq) (by kernel_rfl) (by rw [hwn]; exact HXN.out) (fun hHeld => ?_);rw [hwn] at hHeld ⊢;clear hwn;have HBS:=HXN;refine tkq 0 ?_;refine tk 1 (v:=?_) (fun W hS => ?_) ?_;rotate_left
 ·
  try try dsimp only at hS
  obtain ⟨z0,z1,z2,z3,z4,z5⟩:=ce6 hS.x;go_simp
  try with_reducible rfl
 try simp only [Act.put,pt1,pt2,pt3]
 refine rdy 2 (fun K hK => ?_);have HBS0:=HBS;go_simp;refine (HCA.out _ HBS0.out).mono ?_;rintro e wn ⟨Ac,cc,rfl,hqa,hb⟩;have HBS:=qz (HBS0.out.step hb);have HQA:=qz hqa;clear hb hqa HBS0;refine koq hK HBS.out (fun hHeld=>?_);clear hK K;refine rdy 3 (fun K hK => ?_);have HBS0:=HBS;go_simp;refine (HRA.out _ Ac cc HQA.out).mono ?_;rintro e wn ⟨rfl,hb⟩
 have HBS:=qz (HBS0.out.step hb);clear hb HBS0 HQA;refine koq hK HBS.out (fun hHeld=>?_);clear hK K;refine tkq 4 ?_;refine tkq 5 ?_;refine tkq 6 ?_;refine tk 7 (v:=?_) (fun W hS => ?_) ?_;rotate_left
 ·
  try try dsimp only at hS
  have z0:=hS.x.cell 2;go_simp
  try with_reducible rfl
 try simp only [Act.put,pt1,pt2,pt3]
 refine tkq 8 ?_;refine tk 9 (v:=?_) (fun W hS => ?_) ?_;rotate_left
 ·
  try try dsimp only at hS
  obtain ⟨z0,z1,z2,z3,z4,z5⟩:=ce6 hS.x;go_simp
  try with_reducible rfl
 try simp only [Act.put,pt1,pt2,pt3]
 refine rdy 10 (fun K hK => ?_);have HBS0:=HBS;go_simp;refine (HCB.out _ HBS0.out).mono ?_;rintro e wn ⟨Ad,cd,rfl,hqa,hb⟩;have HBS:=qz (HBS0.out.step hb);have HQA:=qz hqa;clear hb hqa HBS0;refine koq hK HBS.out (fun hHeld=>?_);clear hK K;refine rdy 11 (fun K hK => ?_);have HBS0:=HBS;go_simp;refine (HRB.out _ Ad cd HQA.out).mono ?_;rintro e wn ⟨rfl,hb⟩
 have HBS:=qz (HBS0.out.step hb);clear hb HBS0 HQA;refine koq hK HBS.out (fun hHeld=>?_);clear hK K;refine tkq 12 ?_;refine tkq 13 ?_;refine rdy 14 (fun K hK => ?_);go_simp;refine koq hK HBS.out (fun hHeld=>?_);clear hK K;refine wpAnyH_done (by kernel_rfl) ?_ _;clear hHeld;go_wp2_with fail;go_ret;exact ⟨by simp,HBS.out.b⟩
theorem tidyC14 (S:Sv14) (h:1<=S.C.length):Tidy14 usC S.C 16↔S.C.length<=16/\gt14 S.C (S.C.length - 1) = true:=by
 unfold Tidy14;rw [en14_full];constructor
 ·
  rintro ⟨h1,h2 | h2,_⟩
  · omega
  · exact ⟨h1,h2⟩
 ·
  rintro ⟨h1,h2⟩;exact ⟨h1,.inr h2,fun j _ hu => hu⟩
theorem used0_14 (S:Sv14):us14 usC S.C 0 = true↔1<=S.C.length/\gt14 S.C 0 = true:=by
 have hn:us14 usC S.C ((0:Nat):Int) = usC (gt14 S.C 0):=us14_nat _ _ _;constructor
 ·
  intro h;have h2:gt14 S.C 0 = true:=hn.symm.trans h;refine ⟨Classical.byContradiction (fun hl => ?_),h2⟩;rw [gt14_out (by omega)] at h2;cases h2
 ·
  rintro ⟨_,h⟩;exact hn.trans h
theorem rfine14_iff (S:Sv14):Fine14 S↔1<=S.q/\S.q<=1000/\1<=S.C.length/\S.C.length<=16/\gt14 S.C 0 = true/\gt14 S.C (S.C.length - 1) = true/\RTickets14 S/\RThreads14 S/\RLocks14 S/\Queue14 S/\Free14R S.C.length (cArr14 S S.T.length)/\Free14R S.H.length (tArr14 S S.H.length):=by
 constructor
 ·
  rintro ⟨h0,h1,⟨t0,t1,t2,t3⟩,hu,ht,hh,hl,hq,f0,f1⟩;obtain ⟨h2,h4⟩:=(used0_14 S).1 hu;obtain ⟨h3,h5⟩:=(tidyC14 S h2).1 t0;exact ⟨h0,h1,h2,h3,h4,h5,⟨t1,ht⟩,⟨t2,hh⟩,⟨t3,hl⟩,hq,f0,f1⟩
 ·
  rintro ⟨h0,h1,h2,h3,h4,h5,⟨t1,ht⟩,⟨t2,hh⟩,⟨t3,hl⟩,hq,f0,f1⟩;exact ⟨h0,h1,⟨(tidyC14 S h2).2 ⟨h3,h5⟩,t1,t2,t3⟩,(used0_14 S).2 ⟨h2,h4⟩,ht,hh,hl,hq,f0,f1⟩
theorem rfine14 (v:Value) (S:Sv14) (b:Bool) (w:World) (h:St14 w v S) (hb0:b = true↔Fine14 S) :
  Calls Tryz.prog 7 #[v] w fun e w' => e = .returned (.bool b)/\Below w.heap.size w w':=by
 have hb:=hb0.trans (rfine14_iff S);by_cases e0:1<=S.q
 case neg =>
  obtain rfl:b = false:=bool14_of hb (fun h => e0 h.1);exact rfine14_0 v S w h e0
 by_cases e1:S.q<=1000
 case neg =>
  obtain rfl:b = false:=bool14_of hb (fun h => e1 h.2.1);exact rfine14_1 v S w h e0 e1
 by_cases e2:1<=S.C.length
 case neg =>
  obtain rfl:b = false:=bool14_of hb (fun h => e2 h.2.2.1);exact rfine14_2 v S w h e0 e1 e2
 by_cases e3:S.C.length<=16
 case neg =>
  obtain rfl:b = false:=bool14_of hb (fun h => e3 h.2.2.2.1);exact rfine14_3 v S w h e0 e1 e2 e3
 by_cases e4:gt14 S.C 0 = true
 case neg =>
  obtain rfl:b = false:=bool14_of hb (fun h => e4 h.2.2.2.2.1);exact rfine14_4 v S w h e0 e1 e2 e3 e4
 by_cases e5:gt14 S.C (S.C.length - 1) = true
 case neg =>
  obtain rfl:b = false:=bool14_of hb (fun h => e5 h.2.2.2.2.2.1);exact rfine14_5 v S w h e0 e1 e2 e3 e4 e5
 by_cases e6:RTickets14 S
 case neg =>
  obtain rfl:b = false:=bool14_of hb (fun h => e6 h.2.2.2.2.2.2.1);exact rfine14_6 v S w h e0 e1 e2 e3 e4 e5 e6
 by_cases e7:RThreads14 S
 case neg =>
  obtain rfl:b = false:=bool14_of hb (fun h => e7 h.2.2.2.2.2.2.2.1);exact rfine14_7 v S w h e0 e1 e2 e3 e4 e5 e6 e7
 by_cases e8:RLocks14 S
 case neg =>
  obtain rfl:b = false:=bool14_of hb (fun h => e8 h.2.2.2.2.2.2.2.2.1);exact rfine14_8 v S w h e0 e1 e2 e3 e4 e5 e6 e7 e8
 by_cases e9:Queue14 S
 case neg =>
  obtain rfl:b = false:=bool14_of hb (fun h => e9 h.2.2.2.2.2.2.2.2.2.1);exact rfine14_9 v S w h e0 e1 e2 e3 e4 e5 e6 e7 e8 e9
 by_cases e10:Free14R S.C.length (cArr14 S S.T.length)
 case neg =>
  obtain rfl:b = false:=bool14_of hb (fun h => e10 h.2.2.2.2.2.2.2.2.2.2.1);exact rfine14_10 v S w h e0 e1 e2 e3 e4 e5 e6 e7 e8 e9 e10
 exact rfine14_11 v S w h e0 e1 e2 e3 e4 e5 e6 e7 e8 e9 e10 b (by rw [hb]; exact ⟨fun h => h.2.2.2.2.2.2.2.2.2.2.2,fun h => ⟨e0,e1,e2,e3,e4,e5,e6,e7,e8,e9,e10,h⟩⟩)
end
end Go.Proofs.YtkdmnlihpebbkaaGreat
