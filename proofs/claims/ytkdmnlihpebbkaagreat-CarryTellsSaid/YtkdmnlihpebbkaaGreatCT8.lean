import Derived.Test.YtkdmnlihpebbkaaGreatCT7
set_option linter.all false
set_option maxHeartbeats 4000000
namespace Go.Proofs.YtkdmnlihpebbkaaGreat
section
open Go.RowKit
set_option maxRecDepth 100000
def nxt16 (S:Sv14) (i:Int):Int:=if (at14 usH S.H i).s = 4 then (at14 usH S.H i).f else if (at14 usH S.H i).s = 6 then (at14 usL S.L (at14 usH S.H i).f).h else -1
def Ta16 (S:Sv14):List (Nat × Nat):=cut13 S.H.length (tArr14 S S.H.length)
theorem nxt16_no {S:Sv14} {i:Int} (h:us14 usH S.H i = false):nxt16 S i = -1:=by
 rw [nxt16,at14_no h];rfl
theorem ush16_lt {S:Sv14} {i:Int} (h:us14 usH S.H i = true):0<=i/\i < (S.H.length:Int):=Classical.byContradiction (fun hn => by rw [us14_off def14H hn] at h; cases h)
theorem usl16_lt {S:Sv14} {i:Int} (h:us14 usL S.L i = true):0<=i/\i < (S.L.length:Int):=Classical.byContradiction (fun hn => by rw [us14_off def14L hn] at h; cases h)
theorem ush16_of {S:Sv14} {k:Nat} (h:(gt14 S.H k).s = 4\/(gt14 S.H k).s = 6):us14 usH S.H (k:Int) = true:=by
 rw [us14_nat,usH];rcases h with h | h <;> rw [h] <;> rfl
theorem tarr16_mem {S:Sv14} {a b:Int}:∀ {n:Nat},(a,b)∈tArr14 S n↔∃ k:Nat,k < n/\a = (k:Int)/\((gt14 S.H k).s = 4/\b = (gt14 S.H k).f\/(gt14 S.H k).s = 6/\b = (at14 usL S.L (gt14 S.H k).f).h)
 | 0 => by simp [tArr14]
 | n + 1 => by
  rw [tArr14,List.mem_append,tarr16_mem (n:=n)];constructor
  ·
   rintro (⟨k,h1,h2⟩ | h)
   · exact ⟨k,by omega,h2⟩
   ·
    split at h
    ·
     next h3 =>
     rw [List.mem_singleton] at h;injection h with h4 h5
     exact ⟨n,by omega,h4,.inl ⟨h3,h5⟩⟩
    ·
     split at h
     ·
      next h3 =>
      rw [List.mem_singleton] at h;injection h with h4 h5
      exact ⟨n,by omega,h4,.inr ⟨h3,h5⟩⟩
     · cases h
  ·
   rintro ⟨k,h1,h2,h3⟩;rcases (show k < n\/k = n by omega) with h6 | rfl
   · exact .inl ⟨k,h6,h2,h3⟩
   ·
    right;rcases h3 with ⟨h4,h5⟩ | ⟨h4,h5⟩
    · rw [if_pos h4,List.mem_singleton,h2,h5]
    · rw [if_neg (by rw [h4]; decide),if_pos h4,List.mem_singleton,h2,h5]
theorem nxt16_arr {S:Sv14} {k:Nat} {b:Int} (hk:k < S.H.length):((k:Int),b)∈tArr14 S S.H.length↔((gt14 S.H k).s = 4\/(gt14 S.H k).s = 6)/\nxt16 S (k:Int) = b:=by
 rw [tarr16_mem];constructor
 ·
  rintro ⟨j,_,h2,h3⟩;obtain rfl:k = j:=by omega
  have hu:=ush16_of (h3.imp And.left And.left);refine ⟨h3.imp And.left And.left,?_⟩;rw [nxt16,at14_yes hu,Int.toNat_natCast];rcases h3 with ⟨h4,h5⟩ | ⟨h4,h5⟩
  · rw [if_pos h4,h5]
  · rw [if_neg (by rw [h4]; decide),if_pos h4,h5]
 ·
  rintro ⟨h1,h2⟩;have hu:=ush16_of h1;rw [nxt16,at14_yes hu,Int.toNat_natCast] at h2;rcases h1 with h4 | h4
  ·
   rw [if_pos h4] at h2;exact ⟨k,hk,rfl,.inl ⟨h4,h2.symm⟩⟩
  ·
   rw [if_neg (by rw [h4]; decide),if_pos h4] at h2;exact ⟨k,hk,rfl,.inr ⟨h4,h2.symm⟩⟩
theorem nxt16_used {S:Sv14} (hf:Fine14 S) (i:Int):nxt16 S i = -1\/us14 usH S.H (nxt16 S i) = true/\((at14 usH S.H i).s = 4\/(at14 usH S.H i).s = 6):=by
 cases hu:us14 usH S.H i with
 | false => exact .inl (nxt16_no hu)
 | true =>
  have hin:=ush16_lt hu;obtain ⟨k,rfl⟩:∃ k:Nat,i = (k:Int):=⟨i.toNat,by omega⟩
  have hk:k < S.H.length:=by omega
  have hx:at14 usH S.H (k:Int) = gt14 S.H k:=by rw [at14_yes hu,Int.toNat_natCast]
  have hth:=(hf.2.2.2.2.2.1.1 k hk (by rwa [us14_nat] at hu)).1;rw [nxt16,hx];rcases hth with h | h | h
  ·
   rw [if_pos h.1];exact .inr ⟨h.2.1,.inl h.1⟩
  ·
   rw [if_neg (by rw [h.1]; decide),if_pos h.1];right;refine ⟨?_,.inr h.1⟩;have hlu:=h.2;have hli:=usl16_lt hlu;obtain ⟨j,hj⟩:∃ j:Nat,(gt14 S.H k).f = (j:Int):=⟨(gt14 S.H k).f.toNat,by omega⟩
   rw [hj] at hlu hli ⊢;rw [at14_yes hlu,Int.toNat_natCast];have hjl:j < S.L.length:=by omega
   have hlk:=hf.2.2.2.2.2.2.1 j hjl (by rwa [us14_nat] at hlu);rcases hlk with h3 | h3
   · exact absurd ⟨h.1,hj⟩ (h3.2 k hk)
   · exact h3.2.1
  ·
   left;rw [if_neg (by rcases h.1 with e | e | e | e <;> rw [e] <;> decide),if_neg (by rcases h.1 with e | e | e | e <;> rw [e] <;> decide)]
theorem ta16_mem {S:Sv14} (hf:Fine14 S) {a b:Nat}:(a,b)∈Ta16 S↔a < S.H.length/\nxt16 S (a:Int) = (b:Int):=by
 unfold Ta16;rw [cut13_mem];constructor
 ·
  rintro ⟨h1,h2,h3⟩;exact ⟨h2,((nxt16_arr h2).1 h1).2⟩
 ·
  rintro ⟨h1,h2⟩;rcases nxt16_used hf (a:Int) with h3 | ⟨h3,h4⟩
  ·
   rw [h2] at h3;omega
  ·
   rw [h2] at h3;have h5:=ush16_lt h3;refine ⟨(nxt16_arr h1).2 ⟨?_,h2⟩,h1,by omega⟩
   have hu:us14 usH S.H (a:Int) = true:=by
    cases hu:us14 usH S.H (a:Int) with
    | true => rfl
    | false => rw [nxt16_no hu] at h2; omega
   rwa [at14_yes hu,Int.toNat_natCast] at h4
inductive Chn16 (S:Sv14):Nat->List Nat->Prop
 | one {i:Nat}:nxt16 S (i:Int) = -1->Chn16 S i [i]
 | step {i j:Nat} {l:List Nat}:nxt16 S (i:Int) = (j:Int)->Chn16 S j l->Chn16 S i (i :: l)
theorem Chn16.same {S:Sv14} {i:Nat} {l m:List Nat} (h:Chn16 S i l) (k:Chn16 S i m):l = m:=by
 induction h generalizing m with
 | one h1 =>
  cases k with
  | one _ => rfl
  | step h2 _ => omega
 | @step i j l h1 _ ih =>
  cases k with
  | one h2 => omega
  | @step _ j2 l2 h2 h3 =>
   obtain rfl:j = j2:=by omega
   rw [ih h3]
theorem Chn16.head {S:Sv14} {i:Nat} {l:List Nat} (h:Chn16 S i l):∃ r,l = i :: r:=by
 cases h with
 | one _ => exact ⟨_,rfl⟩
 | step _ _ => exact ⟨_,rfl⟩
theorem Chn16.ne {S:Sv14} {i:Nat} {l:List Nat} (h:Chn16 S i l):l≠[]:=by
 obtain ⟨r,rfl⟩:=h.head;simp
theorem Chn16.rest {S:Sv14} {i x:Nat} {l:List Nat} (h:Chn16 S i l) (hx:x∈l):∃ a r,l = a ++ r/\Chn16 S x r:=by
 induction h with
 | @one i h1 =>
  obtain rfl:x = i:=by simpa using hx
  exact ⟨[],[x],rfl,.one h1⟩
 | @step i j l h1 h2 ih =>
  rw [List.mem_cons] at hx;rcases hx with rfl | hx
  · exact ⟨[],x :: l,rfl,.step h1 h2⟩
  ·
   obtain ⟨a,r,h3,h4⟩:=ih hx;exact ⟨i :: a,r,by rw [h3]; rfl,h4⟩
def lst16 (l:List Nat):Nat:=nth l (l.length - 1)
theorem lst16_app {a r:List Nat} (h:r≠[]):lst16 (a ++ r) = lst16 r:=by
 have hp:=List.length_pos_iff.2 h;unfold lst16 nth;rw [List.length_append,List.getD_eq_getElem?_getD,List.getD_eq_getElem?_getD,List.getElem?_append_right (by omega)]
 congr 2
 omega
theorem Chn16.end_ {S:Sv14} {i:Nat} {l:List Nat} (h:Chn16 S i l):nxt16 S ((lst16 l:Nat):Int) = -1/\lst16 l∈l:=by
 induction h with
 | @one i h1 => exact ⟨h1,by simp [lst16,nth]⟩
 | @step i j l h1 h2 ih =>
  have e:lst16 (i :: l) = lst16 l:=lst16_app (a:=[i]) h2.ne;rw [e];exact ⟨ih.1,List.mem_cons_of_mem _ ih.2⟩
theorem Chn16.ends {S:Sv14} {i x:Nat} {l r:List Nat} (h:Chn16 S i l) (hx:x∈l) (hr:Chn16 S x r):lst16 r = lst16 l:=by
 obtain ⟨a,r2,h1,h2⟩:=h.rest hx;rw [h2.same hr] at h1;rw [h1,lst16_app hr.ne]
theorem Chn16.used {S:Sv14} (hf:Fine14 S) {i:Nat} {l:List Nat} (h:Chn16 S i l) (hi:us14 usH S.H (i:Int) = true):∀ x,x∈l->us14 usH S.H (x:Int) = true:=by
 induction h with
 | @one i _ =>
  intro x hx;obtain rfl:x = i:=by simpa using hx
  exact hi
 | @step i j l h1 _ ih =>
  intro x hx;rw [List.mem_cons] at hx;rcases hx with rfl | hx
  · exact hi
  ·
   refine ih ?_ x hx;rcases nxt16_used hf (i:Int) with h2 | h2
   · omega
   ·
    rw [h1] at h2;exact h2.1
theorem Chn16.way {S:Sv14} (hf:Fine14 S) {i:Nat} {l:List Nat} (h:Chn16 S i l) (hi:i < S.H.length):∀ x,x∈l↔x = i\/Way (Ta16 S) i x:=by
 have back:∀ {a b:Nat},Way (Ta16 S) a b->∃ j:Nat,nxt16 S (a:Int) = (j:Int)/\(j = b\/Way (Ta16 S) j b):=by
  intro a b hw
  induction hw with
  | one h1 => exact ⟨_,((ta16_mem hf).1 h1).2,.inl rfl⟩
  | step _ h1 ih =>
   obtain ⟨j,h2,h3⟩:=ih;refine ⟨j,h2,.inr ?_⟩;rcases h3 with rfl | h3
   · exact .one h1
   · exact h3.step h1
 induction h with
 | @one i h1 =>
  intro x;rw [List.mem_singleton];constructor
  · exact .inl
  ·
   rintro (h | h)
   · exact h
   ·
    obtain ⟨j,h2,_⟩:=back h
    omega
 | @step i j l h1 h2 ih =>
  intro x
  have hj:j < S.H.length:=by
   rcases nxt16_used hf (i:Int) with h3 | ⟨h3,_⟩
   · omega
   ·
    rw [h1] at h3;have:=ush16_lt h3;omega
  have ha:(i,j)∈Ta16 S:=(ta16_mem hf).2 ⟨hi,h1⟩;rw [List.mem_cons,ih hj x];constructor
  ·
   rintro (h | rfl | h)
   · exact .inl h
   · exact .inr (.one ha)
   · exact .inr ((Way.one ha).trans h)
  ·
   rintro (h | h)
   · exact .inl h
   ·
    right;obtain ⟨j2,h3,h4⟩:=back h;obtain rfl:j = j2:=by omega
    rcases h4 with h4 | h4
    · exact .inl h4.symm
    · exact .inr h4
theorem in16_ta (S:Sv14):In13 (Ta16 S) S.H.length:=fun _ hp => cut13_lt hp
theorem chn16_ex {S:Sv14} (hf:Fine14 S) {i:Nat} (hi:i < S.H.length):∃ l,Chn16 S i l:=by
 obtain ⟨os,hd,hl⟩:Free14R S.H.length (tArr14 S S.H.length):=hf.2.2.2.2.2.2.2.2.2;obtain ⟨D,hD,hn⟩:=dep13_ex (in16_ta S) hd.1 hl
 suffices H:∀ (m i:Nat),i < S.H.length->S.H.length - D i<=m->∃ l,Chn16 S i l from H _ i hi (Nat.le_refl _)
 intro m
 induction m with
 | zero =>
  intro i hi h0;rcases nxt16_used hf (i:Int) with h3 | ⟨h3,_⟩
  · exact ⟨[i],.one h3⟩
  ·
   have h5:=ush16_lt h3;obtain ⟨j,hj⟩:∃ j:Nat,nxt16 S (i:Int) = (j:Int):=⟨(nxt16 S (i:Int)).toNat,by omega⟩
   have h6:=hD.up i j ((ta16_mem hf).2 ⟨hi,hj⟩);have h7:=hn j
   omega
 | succ m ih =>
  intro i hi h0;rcases nxt16_used hf (i:Int) with h3 | ⟨h3,_⟩
  · exact ⟨[i],.one h3⟩
  ·
   have h5:=ush16_lt h3;obtain ⟨j,hj⟩:∃ j:Nat,nxt16 S (i:Int) = (j:Int):=⟨(nxt16 S (i:Int)).toNat,by omega⟩
   have h6:=hD.up i j ((ta16_mem hf).2 ⟨hi,hj⟩);have h7:=hn j;obtain ⟨l,hl⟩:=ih j (by omega) (by omega);exact ⟨i :: l,.step hj hl⟩
theorem Chn16.len {S:Sv14} (hf:Fine14 S) {i:Nat} {l:List Nat} (h:Chn16 S i l) (hi:i < S.H.length):l.length<=S.H.length:=by
 have hr:¬ Rng13 (Ta16 S):=free15_ring.1 hf.2.2.2.2.2.2.2.2.2
 have hnd:∀ {i:Nat} {l:List Nat},Chn16 S i l->i < S.H.length->l.Nodup/\∀ x,x∈l->x < S.H.length:=by
  intro i l h
  induction h with
  | one _ => exact fun hi => ⟨by simp,fun x hx => by obtain rfl:=List.mem_singleton.1 hx; exact hi⟩
  | @step i j l h1 h2 ih =>
   intro hi;have ha:(i,j)∈Ta16 S:=(ta16_mem hf).2 ⟨hi,h1⟩;have hj:=(in16_ta S _ ha).2;obtain ⟨h3,h4⟩:=ih hj;refine ⟨List.nodup_cons.2 ⟨fun hm => ?_,h3⟩,fun x hx => ?_⟩
   ·
    rcases (h2.way hf hj i).1 hm with h5 | h5
    ·
     subst h5;exact hr ⟨i,.one ha⟩
    · exact hr ⟨i,(Way.one ha).trans h5⟩
   ·
    rw [List.mem_cons] at hx;rcases hx with rfl | hx
    · exact hi
    · exact h4 x hx
 obtain ⟨h1,h2⟩:=hnd h hi;exact nodup13_len _ l h1 h2
theorem ordc15 (c:Int) (gx:Nat) (S:Sv14) (A0 A1 A2 A3 A4:Option Addr) (n0 n1 n2 n3 n4 c0 c1 c2 c3 c4:Nat) (sq:Int) (w:World) (b:Bool) (hx:Blk w gx 28 #[.slice A0 n0 c0,.slice A1 n1 c1,.slice A2 n2 c2,.slice A3 n3 c3,.slice A4 n4 c4,.int .i64 sq]) (hs:SA14 w S A0 A1 A2 A3 A4 n0 n1 n2 n3 n4 c0 c1 c2 c3 c4 sq) (hb:us14 usC S.C c = b) :
  Calls Tryz.prog 103 #[.int .i64 c,.pointer (some ⟨gx,0,none⟩)] w fun e w' => e = .returned (.bool (!b))/\Below w.heap.size w w':=by
 have HC:=qz (coin14 (.agg #[.slice A0 n0 c0,.slice A1 n1 c1,.slice A2 n2 c2,.slice A3 n3 c3,.slice A4 n4 c4,.int .i64 sq]) S c b w ⟨A0,A1,A2,A3,A4,n0,n1,n2,n3,n4,c0,c1,c2,c3,c4,sq,rfl,hs⟩ hb);obtain ⟨x0,x1,x2,x3,x4,x5⟩:=ce6 hx;clear hs hb hx;go_enter Tryz.func103,Tryz.ntmps103;go_wp2_with fail;refine HC.out.mono ?_;rintro e w1 ⟨rfl,hb1⟩;clear HC
 cases b with
 | true =>
  go_wp2_with fail;go_ret
  exact ⟨rfl,hb1⟩
 | false =>
  go_wp2_with fail;go_ret;exact ⟨rfl,hb1⟩
def Fst15 (p:Nat->Bool) (xs:List Nat) (n:Nat) (r:Int):Prop:=(∃ k:Nat,k < n/\r = (k:Int)/\p (nth xs k) = true/\∀ j,j < k->p (nth xs j) = false)\/(r = -1/\∀ j,j < n->p (nth xs j) = false)
theorem idx15a (A:Option Addr) (xs:List Nat) (n c gx B:Nat) (w:World) (hl:xs.length = n) (hr:Rd w B A xs) (hn:n<=1000000) (hB:B<=w.heap.size) (p:Nat->Bool)
  (hcl:∀ W,Below w.heap.size w W->∀ x,x∈xs->Calls Tryz.prog 103 #[.int .i64 ((x:Nat):Int),.pointer (some ⟨gx,0,none⟩)] W fun e w' => e = .returned (.bool (p x))/\Below W.heap.size W w') :
  Calls Tryz.prog 120 #[.slice A n c,.func (.func 103) #[] #[.pointer (some ⟨gx,0,none⟩)]] w fun e w' => ∃ r:Int,e = .returned (.int .i64 r)/\Fst15 p xs n r/\Below w.heap.size w w':=by
 have HL:=qz hl;have HR:=qz hr;have HC:=qz hcl;clear hl hr hcl;go_enter Tryz.func120,Tryz.ntmps120;go_wp2_with fail;go_loopw [8] (fun i wr => ∃ k:Nat,i = .int .i64 (k:Int)/\k<=n/\Hid (∀ j,j < k->p (nth xs j) = false)/\Hid (Below w.heap.size w wr)) (fun i _ => n - (intOf i).toNat)
 case atStart => exact ⟨0,rfl,by omega,qz (fun j h => by omega),qz (Below.refl _ _)⟩
 case round =>
  obtain ⟨k,rfl,hk,HN,HG⟩:=hrel;by_cases hkn:k < n
  ·
   obtain ⟨g,o,hA,hab,q0⟩:=(HR.out.below HG.out hB).at_ (show k < xs.length by have:=HL.out; omega);subst hA;obtain ⟨x,hx⟩:=exq (nth xs k);rw [hx] at q0;obtain ⟨bp,hbp⟩:=exq (p x);have HX:Hid (p (nth xs k) = bp):=qz (by rw [hx]; exact hbp);have i0:(0:Int)<=(k:Int):=by omega
   have i1:(k:Int) < (n:Int):=by omega
   have hc:=HC.out _ HG.out x (by rw [<- hx,nth_in (by have:=HL.out; omega)]; exact List.getElem_mem _);rw [hbp] at hc;have HCK:=qz hc;clear hx hbp hc hab
   cases bp with
   | true =>
    go_wp2_with fail;refine HCK.out.mono ?_;rintro e w1 ⟨rfl,hb1⟩;have HG1:=qz (HG.out.trans (hb1.mono HG.out.size));clear HCK hb1;go_wp2_with fail;go_ret
    exact ⟨(k:Int),rfl,.inl ⟨k,hkn,rfl,HX.out,HN.out⟩,HG1.out⟩
   | false =>
    go_wp2_with fail;refine HCK.out.mono ?_;rintro e w1 ⟨rfl,hb1⟩;have HG1:=qz (HG.out.trans (hb1.mono HG.out.size));clear HCK hb1;go_wp2_with fail;go_roundw
    case rel => exact ⟨k + 1,by go_num,by omega,qz (fun j hj => by
     rcases (show j < k\/j = k by omega) with h5 | h5
     · exact HN.out j h5
     · rw [h5]; exact HX.out),HG1⟩
    case measure => simp [intOf]; omega
  ·
   obtain rfl:k = n:=by omega
   have i1:¬ (k:Int) < (k:Int):=by omega
   go_wp2_with fail;go_ret;exact ⟨-1,rfl,.inr ⟨rfl,HN.out⟩,HG.out⟩
theorem clear15 {w:World} {g n k:Nat} {h:Nat->Nat} (q:Ib13 w g n h) (hk:k<=n) (B:Option Addr) (c:Nat) (hB:k < n->B = some ⟨g,k,none⟩) :
  ∃ w',(∀ ty,(Builtin.clear_ #[26] ty #[.slice B (n - k) c]).run Tryz.prog w = .ok (.tuple #[]) w')/\Ib13 w' g k h/\w.grownBy w' (some g):=by
 rcases Nat.eq_zero_or_pos (n - k) with h0 | h0
 ·
  rw [h0];obtain rfl:k = n:=by omega
  refine ⟨w,fun ty => ?_,q,World.grownBy.refl _ _⟩;cases B <;> simp [Builtin.clear_,run_underlying Tryz.underlying26]
 ·
  obtain rfl:=hB (by omega);obtain ⟨cs,h1,h2,h3⟩:=q;obtain ⟨zs,hz0⟩:∃ zs,zs = ints (List.replicate (n - k) 0):=⟨_,rfl⟩
  have hzl:zs.length = n - k:=by rw [hz0]; simp [ints]
  have hst:=run_storeCells_at (P:=Tryz.prog) g k 3 zs 0 cs w h1 (by omega) (by rw [hz0]; exact ints_one _)
  have hz:∀ W,(zeroValue 3).run Tryz.prog W = .ok (.int .i64 0) W:=fun W => by
   obtain ⟨i,hi,hz,_⟩:=info_parts info_int11;simp [zeroValue,typeInfo,hi,hz]
  have hzc:(Builtin.zeroCells (Value.int .i64 0).cells (n - k)).toList = zs:=by
   rw [hz0];simp [Builtin.zeroCells,Value.cells,ints];apply List.ext_getElem
   · simp
   ·
    intro i h1 h2;simp [Nat.mod_one]
  refine ⟨w.setRow g (cs.toList.take k ++ zs ++ cs.toList.drop (k + zs.length)).toArray,fun ty => ?_,⟨_,setRow_heap _ _ _ _ _ _ h1,?_,fun j hj => ?_⟩,?_⟩
  ·
   obtain ⟨d,hd⟩:∃ d,n - k = d + 1:=⟨n - k - 1,by omega⟩
   rw [Nat.add_zero] at hst;rw [<- hzc] at hst ⊢;rw [hd] at hst ⊢;simp [Builtin.clear_,run_underlying Tryz.underlying26,hz,hst]
  ·
   simp;omega
  ·
   rw [<- h3 j (by omega)];simp only [List.getElem?_toArray,List.append_assoc];rw [List.getElem?_append_left (by simp; omega),List.getElem?_take_of_lt hj,Array.getElem?_toList]
  · exact ⟨rfl,rfl,rfl,by simp [World.setRow],fun j _ hj => setRow_other w g j _ (fun e => hj (by rw [e]))⟩
theorem cutb15 (g n c k:Nat) (hk:k<=n) (hn:n<=c):∃ B,(∀ W,(Instr.slice 26 (.slice (some ⟨g,0,none⟩) n c) (some (.int .i64 (k:Int))) none none).run Tryz.prog W = .ok (.slice B (n - k) (c - k)) W)/\(k < n->B = some ⟨g,k,none⟩):=by
 refine ⟨if c = k then some ⟨g,0,none⟩ else (some (⟨g,0,none⟩:Addr)).map (·.add k),fun W => ?_,fun h => ?_⟩
 · simp [go_sem,show (k:Int)<=(n:Int) by omega,run_slice_l]
 ·
  rw [if_neg (by omega)];simp [Addr.add];omega
theorem filt15_next {xs:List Nat} {p:Nat->Bool} {j:Nat} (hj:j < xs.length):(xs.take (j + 1)).filter p = (xs.take j).filter p ++ if p (nth xs j) then [nth xs j] else []:=by
 rw [List.take_add_one,List.getElem?_eq_getElem hj,nth_in hj,List.filter_append]
 congr 1
 cases h:p xs[j] <;> simp [h]
theorem filt15_head {xs:List Nat} {p:Nat->Bool} {j:Nat} (hj:j<=xs.length) (h:∀ t,t < j->p (nth xs t) = true):(xs.take j).filter p = xs.take j:=by
 rw [List.filter_eq_self];intro x hx;obtain ⟨t,ht,rfl⟩:=List.getElem_of_mem hx;rw [List.length_take] at ht;rw [List.getElem_take,<- nth_in];exact h t (by omega)
theorem nth15_take {xs:List Nat} {j t:Nat} (h:t < j):nth (xs.take j) t = nth xs t:=by simp [nth,List.getElem?_take,h]
theorem nth15_low {xs ys:List Nat} {t:Nat} (h:t < xs.length):nth (xs ++ ys) t = nth xs t:=by simp [nth,List.getElem?_append_left h]
theorem nth15_at {xs:List Nat} {x t:Nat} (h:xs.length = t):nth (xs ++ [x]) t = x:=by subst h; simp [nth]
def RetR15 (w:World) (xs:List Nat) (e:Ending) (w':World):Prop:=∃ A c,e = .returned (.slice A xs.length c)/\Rd w' w'.heap.size A xs/\Below w.heap.size w w'
theorem rd15_own {w:World} {base:Nat} {A:Option Addr} {c n:Nat} {xs:List Nat} (h:w.ownsRow base 3 1 (.slice A n c) n (ints xs)) (hl:xs.length = n):Rd w w.heap.size A xs:=by
 rcases h.2 with ⟨_,h1⟩ | ⟨g,cap,cur,hv,_,_⟩
 ·
  intro hx;exact absurd (List.eq_nil_of_length_eq_zero (by omega)) hx
 ·
  injection hv with hA hn hc
  subst hA hl;exact (Ib13.of_own h rfl).rd (fun _ _ => rfl)
structure Df15 (w:World) (B g n:Nat) (xs:List Nat) (p:Nat->Bool) (k j:Nat) (W:World):Prop where
 b:Below B w W
 l:((xs.take j).filter (fun x => !p x)).length = k
 r:∃ h:Nat->Nat,Ib13 W g n h/\(∀ t,t < k->h t = nth ((xs.take j).filter (fun x => !p x)) t)/\∀ t,j<=t->t < n->h t = nth xs t
def ord15 (S:Sv14) (os:List Nat):List Nat:=os.filter (fun x => us14 usC S.C (x:Int))
structure Ti15 (w:World) (L:Nat) (S:Sv14) (A0 A1 A2 A3 A4:Option Addr) (n0 n1 n2 n3 n4 c0 c1 c2 c3 c4:Nat) (sq:Int) (A:Option Addr) (m c:Nat) (xs:List Nat) (W:World):Prop where
 b:Bx14 w S A0 A1 A2 A3 A4 n0 n1 n2 n3 n4 c0 c1 c2 c3 c4 sq W
 o:W.ownsRow L 3 1 (.slice A m c) m (ints xs)
 l:xs.length = m
 h:w.heap.size < L
 t:L<=W.heap.size
 s:SA14 w S A0 A1 A2 A3 A4 n0 n1 n2 n3 n4 c0 c1 c2 c3 c4 sq
theorem Ti15.step {w:World} {L:Nat} {S:Sv14} {A0 A1 A2 A3 A4:Option Addr} {n0 n1 n2 n3 n4 c0 c1 c2 c3 c4:Nat} {sq:Int} {A:Option Addr} {m c:Nat} {xs:List Nat} {W W':World} (h:Ti15 w L S A0 A1 A2 A3 A4 n0 n1 n2 n3 n4 c0 c1 c2 c3 c4 sq A m c xs W) (hb:Below W.heap.size W W'):Ti15 w L S A0 A1 A2 A3 A4 n0 n1 n2 n3 n4 c0 c1 c2 c3 c4 sq A m c xs W' :=
 ⟨h.b.step hb,own7_keep h.o hb,h.l,h.h,Nat.le_trans h.t hb.size,h.s⟩
theorem Ti15.congr {w:World} {L:Nat} {S:Sv14} {A0 A1 A2 A3 A4:Option Addr} {n0 n1 n2 n3 n4 c0 c1 c2 c3 c4:Nat} {sq:Int} {A:Option Addr} {m c:Nat} {xs ys:List Nat} {W:World} (h:Ti15 w L S A0 A1 A2 A3 A4 n0 n1 n2 n3 n4 c0 c1 c2 c3 c4 sq A m c xs W) (e:xs = ys):Ti15 w L S A0 A1 A2 A3 A4 n0 n1 n2 n3 n4 c0 c1 c2 c3 c4 sq A m c ys W:=e ▸ h
theorem Ti15.start {w:World} {L:Nat} {S:Sv14} {A0 A1 A2 A3 A4:Option Addr} {n0 n1 n2 n3 n4 c0 c1 c2 c3 c4:Nat} {sq:Int} {W:World} (hs:SA14 w S A0 A1 A2 A3 A4 n0 n1 n2 n3 n4 c0 c1 c2 c3 c4 sq) (h:Bx14 w S A0 A1 A2 A3 A4 n0 n1 n2 n3 n4 c0 c1 c2 c3 c4 sq W) (hL:w.heap.size < L) (hW:L<=W.heap.size):Ti15 w L S A0 A1 A2 A3 A4 n0 n1 n2 n3 n4 c0 c1 c2 c3 c4 sq none 0 0 [] W:=⟨h,World.ownsRow_nil _ _ _ _,rfl,hL,hW,hs⟩
theorem Ti15.rd {w:World} {L:Nat} {S:Sv14} {A0 A1 A2 A3 A4:Option Addr} {n0 n1 n2 n3 n4 c0 c1 c2 c3 c4:Nat} {sq:Int} {A:Option Addr} {m c:Nat} {xs:List Nat} {W:World} (h:Ti15 w L S A0 A1 A2 A3 A4 n0 n1 n2 n3 n4 c0 c1 c2 c3 c4 sq A m c xs W):Rd W W.heap.size A xs:=rd15_own h.o h.l
theorem Ti15.push {w:World} {L:Nat} {S:Sv14} {A0 A1 A2 A3 A4:Option Addr} {n0 n1 n2 n3 n4 c0 c1 c2 c3 c4:Nat} {sq:Int} {A:Option Addr} {m c:Nat} {xs:List Nat} {W:World} (h:Ti15 w L S A0 A1 A2 A3 A4 n0 n1 n2 n3 n4 c0 c1 c2 c3 c4 sq A m c xs W) (x:Nat) (hm:m<=5000) :
  ∃ Az cz W2,(Builtin.append_ #[26,26] 26 #[.slice A m c,.slice (some ⟨W.heap.size,0,none⟩) 1 1]).run Tryz.prog (W.alloc (.cells #[.int .i64 (x:Int)] 3)) = .ok (.slice Az (m + 1) cz) W2/\Ti15 w L S A0 A1 A2 A3 A4 n0 n1 n2 n3 n4 c0 c1 c2 c3 c4 sq Az (m + 1) cz (xs ++ [x]) W2/\Below L W W2:=by
 have hbz:=b1' W (.cells #[.int .i64 (x:Int)] 3);have hkz:=Blk.new W 3 #[.int .i64 (x:Int)];have h1:=h.step hbz;have hsy:(W.alloc (.cells #[.int .i64 (x:Int)] 3)).heap.size = W.heap.size + 1:=by simp
 obtain ⟨Y,hY⟩:=exq (W.alloc (.cells #[.int .i64 (x:Int)] 3));rw [hY] at hbz hkz h1 hsy ⊢;have hrv:Rv Y Y.heap.size (some ⟨W.heap.size,0,none⟩) [.int .i64 (x:Int)]:=fun _ => ⟨W.heap.size,0,rfl,by omega,fun j v hj => by rw [Nat.zero_add,hkz.cell]; simpa using hj⟩
 obtain ⟨Az,cz,W2,hrun,hown,hg⟩:=run_append_14 (P:=Tryz.prog) Y L 26 26 3 _ 1 8 Tryz.underlying26 info_int11 rfl (by omega) (by omega) _ m _ h1.o Y.heap.size (some ⟨W.heap.size,0,none⟩) [.int .i64 (x:Int)] 1 1 rfl hrv (by simp [Value.oneCell']) (by omega) h1.t;have ht:=h.t;have hlt:=h.h
 have hY2:Below L Y W2:=(Below.refl L Y).grown hg h1.t (fun r hr => (h1.o.lt r hr).1);have hW2:Below L W W2:=(hbz.mono ht).trans hY2;have hB:Below w.heap.size w W2:=h.b.b.trans (hW2.mono (by omega));refine ⟨Az,cz,W2,hrun,⟨⟨hB,h.b.x.below hW2 hlt,h.s.step hB⟩,?_,by simp [h.l],hlt,by have:=hW2.size; omega,h.s⟩,hW2⟩;rw [ints_append];exact hown
def tks15 (S:Sv14) (p:Tk14->Bool) (n:Nat):List Nat:=all11 (fun j => (gt14 S.T j).u && p (gt14 S.T j)) n
theorem tks15_len (S:Sv14) (p:Tk14->Bool) (n:Nat):(tks15 S p n).length<=n:=all11_len _ _
theorem tks15_mem {S:Sv14} {p:Tk14->Bool} {n j:Nat}:j∈tks15 S p n↔j < n/\(gt14 S.T j).u = true/\p (gt14 S.T j) = true:=by
 unfold tks15 all11;rw [List.mem_filter,List.mem_range,Bool.and_eq_true]
def isw15 (c:Int) (t:Tk14):Bool:=decide (t.c = c)
def fnd15 (k c:Int) (t:Tk14):Bool:=decide (t.k = k/\t.t = c)
theorem isc15 (xu:Bool) (xc xa xk xt:Int) (xo:Bool) (gc:Nat) (c:Int) (w:World) (hc:w.cell? ⟨gc,0,none⟩ = some (.int .i64 c)) :
  Calls Tryz.prog 125 #[.agg #[.bool xu,.int .i64 xc,.int .i64 xa,.int .i64 xk,.int .i64 xt,.bool xo],.pointer (some ⟨gc,0,none⟩)] w fun e w' => e = .returned (.bool (isw15 c ⟨xu,xc,xa,xk,xt,xo⟩))/\Below w.heap.size w w':=by
 have hk:=Blk.new w 55 #[.bool xu,.int .i64 xc,.int .i64 xa,.int .i64 xk,.int .i64 xt,.bool xo];have hb1:=b1' w (.cells #[.bool xu,.int .i64 xc,.int .i64 xa,.int .i64 xk,.int .i64 xt,.bool xo] 55);have l0:=(hb1.cell (p:=⟨gc,0,none⟩) (World.block_lt_of_cell? w _ hc)).trans hc;have c1:=hk.cell 1
 have HE:Hid (isw15 c ⟨xu,xc,xa,xk,xt,xo⟩ = (xc == c)):=qz (by unfold isw15; rw [Bool.eq_iff_iff]; simp);clear hk hc;go_enter Tryz.func125,Tryz.ntmps125;go_wp2_with fail;go_ret;exact ⟨by rw [HE.out]; rfl,hb1⟩
theorem fuc15 (xu:Bool) (xc xa xk xt:Int) (xo:Bool) (gk gt:Nat) (kd d:Int) (w:World) (hk0:w.cell? ⟨gk,0,none⟩ = some (.int .i64 kd)) (ht0:w.cell? ⟨gt,0,none⟩ = some (.int .i64 d)) :
  Calls Tryz.prog 109 #[.agg #[.bool xu,.int .i64 xc,.int .i64 xa,.int .i64 xk,.int .i64 xt,.bool xo],.pointer (some ⟨gk,0,none⟩),.pointer (some ⟨gt,0,none⟩)] w fun e w' => e = .returned (.bool (fnd15 kd d ⟨xu,xc,xa,xk,xt,xo⟩))/\Below w.heap.size w w':=by
 have hk:=Blk.new w 55 #[.bool xu,.int .i64 xc,.int .i64 xa,.int .i64 xk,.int .i64 xt,.bool xo];have hb1:=b1' w (.cells #[.bool xu,.int .i64 xc,.int .i64 xa,.int .i64 xk,.int .i64 xt,.bool xo] 55);have l0:=(hb1.cell (p:=⟨gk,0,none⟩) (World.block_lt_of_cell? w _ hk0)).trans hk0;have l1:=(hb1.cell (p:=⟨gt,0,none⟩) (World.block_lt_of_cell? w _ ht0)).trans ht0
 have c3:=hk.cell 3;have c4:=hk.cell 4;clear hk hk0 ht0;by_cases hkd:xk = kd
 ·
  subst hkd;have HE:Hid (fnd15 xk d ⟨xu,xc,xa,xk,xt,xo⟩ = (xt == d)):=qz (by unfold fnd15; rw [Bool.eq_iff_iff]; simp);go_enter Tryz.func109,Tryz.ntmps109;go_wp2_with fail;go_ret;exact ⟨by rw [HE.out]; rfl,hb1⟩
 ·
  have HE:Hid (fnd15 kd d ⟨xu,xc,xa,xk,xt,xo⟩ = false):=qz (by unfold fnd15; simp [hkd]);have hkb:(xk == kd) = false:=by simpa using hkd
  go_enter Tryz.func109,Tryz.ntmps109;go_wp2_with fail;go_ret;exact ⟨by rw [HE.out]; rfl,hb1⟩
theorem tickets15i (v:Value) (S:Sv14) (gc:Nat) (w:World) (h:St14 w v S) (p:Tk14->Bool)
  (hcl:∀ W,Below w.heap.size w W->∀ xu xc xa xk xt xo,Calls Tryz.prog 125 #[.agg #[.bool xu,.int .i64 xc,.int .i64 xa,.int .i64 xk,.int .i64 xt,.bool xo],.pointer (some ⟨gc,0,none⟩)] W fun e w' => e = .returned (.bool (p ⟨xu,xc,xa,xk,xt,xo⟩))/\Below W.heap.size W w') :
  Calls Tryz.prog 108 #[v,.func (.func 125) #[] #[.pointer (some ⟨gc,0,none⟩)]] w (RetR15 w (tks15 S p S.T.length)):=by
 obtain ⟨A0,A1,A2,A3,A4,n0,n1,n2,n3,n4,c0,c1,c2,c3,c4,sq,rfl,hs⟩:=h;have HP:Hid (RetR15 w (tks15 S p S.T.length) = fun e w' => ∃ A c,e = .returned (.slice A (tks15 S p n1).length c)/\Rd w' w'.heap.size A (tks15 S p n1)/\Below w.heap.size w w'):=qz (by rw [hs.l1]; rfl)
 have HX0:Hid (Ti15 w (w.heap.size + 1) S A0 A1 A2 A3 A4 n0 n1 n2 n3 n4 c0 c1 c2 c3 c4 sq none 0 0 (tks15 S p 0) (w.alloc (.cells #[.slice A0 n0 c0,.slice A1 n1 c1,.slice A2 n2 c2,.slice A3 n3 c3,.slice A4 n4 c4,.int .i64 sq] 28))):=qz (Ti15.start hs (Bx14.new hs) (by omega) (by simp));have HC:=qz hcl;have HL1:=qz hs.l1;have hnb:=hs.m1
 have t1:=HX0.out.b.x.cell 1;clear hs hcl;go_enter Tryz.func108,Tryz.ntmps108;go_wp2_with fail;clear t1;go_loopw [4,10] (fun v i wr => ∃ (k:Nat) (A:Option Addr) (m c:Nat),v = .slice A m c/\i = .int .i64 (k:Int)/\k<=n1/\Hid (Ti15 w (w.heap.size + 1) S A0 A1 A2 A3 A4 n0 n1 n2 n3 n4 c0 c1 c2 c3 c4 sq A m c (tks15 S p k) wr)) (fun _ i _ => n1 - (intOf i).toNat)
 case atStart => exact ⟨0,none,0,0,rfl,rfl,by omega,HX0⟩
 case round =>
  obtain ⟨k,A,m,c,rfl,rfl,hk,HW⟩:=hrel;by_cases hkn:k < n1
  ·
   obtain ⟨a,of,hA,hab,hq⟩:=Lq.at_ len14T (by omega) HW.out.b.s.r1 (show k < S.T.length by have:=HL1.out; omega);obtain ⟨x,hx⟩:=exq (gt14 S.T k);rw [hx] at hq;obtain ⟨xu,xc,xa,xk,xt,xo⟩:=x;have e0:wr.cell? ⟨a,of + k * 6,none⟩ = some (.bool xu):=hq 0 _ rfl;have e1:wr.cell? ⟨a,of + k * 6 + 1,none⟩ = some (.int .i64 xc):=hq 1 _ rfl
   have e2:wr.cell? ⟨a,of + k * 6 + 2,none⟩ = some (.int .i64 xa):=hq 2 _ rfl;have e3:wr.cell? ⟨a,of + k * 6 + 3,none⟩ = some (.int .i64 xk):=hq 3 _ rfl;have e4:wr.cell? ⟨a,of + k * 6 + 4,none⟩ = some (.int .i64 xt):=hq 4 _ rfl;have e5:wr.cell? ⟨a,of + k * 6 + 5,none⟩ = some (.bool xo):=hq 5 _ rfl;have i0:(0:Int)<=(k:Int):=by omega
   have i1:(k:Int) < (n1:Int):=by omega
   have HV:=qz (Ti15.step HW.out (b1' wr (.cells #[.bool xu,.int .i64 xc,.int .i64 xa,.int .i64 xk,.int .i64 xt,.bool xo] 55)));have hv:=Blk.new wr 55 #[.bool xu,.int .i64 xc,.int .i64 xa,.int .i64 xk,.int .i64 xt,.bool xo];obtain ⟨v0,v1,v2,v3,v4,v5⟩:=ce6 hv;have HVB:=qz hv
   have HNX:Hid (tks15 S p (k + 1) = tks15 S p k ++ if (xu && p ⟨xu,xc,xa,xk,xt,xo⟩) then [k] else []):=qz (by
    have h:=all11_next (fun j => (gt14 S.T j).u && p (gt14 S.T j)) k;rw [hx] at h
    exact h)
   obtain ⟨X,hX⟩:=exq (wr.alloc (.cells #[.bool xu,.int .i64 xc,.int .i64 xa,.int .i64 xk,.int .i64 xt,.bool xo] 55));rw [hX] at HV HVB v0 v1 v2 v3 v4 v5;have hmk:m<=k:=by rw [<- HW.out.l]; exact tks15_len S p k
   clear hv hq hx hab;subst hA
   cases xu with
   | false =>
    have HN:=qz (HV.out.congr (ys:=tks15 S p (k + 1)) (by rw [HNX.out]; simp));go_wp2_with fail;go_roundw
    case rel => exact ⟨k + 1,A,m,c,rfl,by go_num,by omega,HN⟩
    case measure => simp [intOf]; omega
   | true =>
    obtain ⟨bp,hbp⟩:=exq (p ⟨true,xc,xa,xk,xt,xo⟩);have hc:=HC.out X HV.out.b.b true xc xa xk xt xo;rw [hbp] at hc HNX;have HCK:=qz hc;clear hbp hc
    cases bp with
    | false =>
     go_wp2_with fail;refine HCK.out.mono ?_;rintro e w2 ⟨rfl,hb2⟩;have HN:=qz ((HV.out.step hb2).congr (ys:=tks15 S p (k + 1)) (by rw [HNX.out]; simp));clear HCK hb2;go_wp2_with fail;go_roundw
     case rel => exact ⟨k + 1,A,m,c,rfl,by go_num,by omega,HN⟩
     case measure => simp [intOf]; omega
    | true =>
     go_wp2_with fail;refine HCK.out.mono ?_;rintro e w2 ⟨rfl,hb2⟩;obtain ⟨Az,cz,W2,hrun,har,_⟩:=(HV.out.step hb2).push k (by omega);have HRUN:=qz hrun;have HAR:=qz (har.congr (ys:=tks15 S p (k + 1)) (by rw [HNX.out]; simp));clear HCK hb2 hrun har
     go_wp2_with (at_builtin; go_loud (refine wpList_append_14 _ rfl (.tmp 22) (.tmp 24) 26 rfl _ _ _ _ rfl rfl HRUN.out ?_));go_roundw
     case rel => exact ⟨k + 1,Az,m + 1,cz,rfl,by go_num,by omega,HAR⟩
     case measure => simp [intOf]; omega
  ·
   obtain rfl:k = n1:=by omega
   have HL:=qz HW.out.l;have h1:¬ (k:Int) < (k:Int):=by omega
   go_wp2_with fail;go_ret;rw [HP.out];exact ⟨A,c,by rw [HL.out]; rfl,HW.out.rd,HW.out.b.b⟩
theorem tickets15f (v:Value) (S:Sv14) (gk gt:Nat) (w:World) (h:St14 w v S) (p:Tk14->Bool)
  (hcl:∀ W,Below w.heap.size w W->∀ xu xc xa xk xt xo,Calls Tryz.prog 109 #[.agg #[.bool xu,.int .i64 xc,.int .i64 xa,.int .i64 xk,.int .i64 xt,.bool xo],.pointer (some ⟨gk,0,none⟩),.pointer (some ⟨gt,0,none⟩)] W fun e w' => e = .returned (.bool (p ⟨xu,xc,xa,xk,xt,xo⟩))/\Below W.heap.size W w') :
  Calls Tryz.prog 108 #[v,.func (.func 109) #[] #[.pointer (some ⟨gk,0,none⟩),.pointer (some ⟨gt,0,none⟩)]] w (RetR15 w (tks15 S p S.T.length)):=by
 obtain ⟨A0,A1,A2,A3,A4,n0,n1,n2,n3,n4,c0,c1,c2,c3,c4,sq,rfl,hs⟩:=h;have HP:Hid (RetR15 w (tks15 S p S.T.length) = fun e w' => ∃ A c,e = .returned (.slice A (tks15 S p n1).length c)/\Rd w' w'.heap.size A (tks15 S p n1)/\Below w.heap.size w w'):=qz (by rw [hs.l1]; rfl)
 have HX0:Hid (Ti15 w (w.heap.size + 1) S A0 A1 A2 A3 A4 n0 n1 n2 n3 n4 c0 c1 c2 c3 c4 sq none 0 0 (tks15 S p 0) (w.alloc (.cells #[.slice A0 n0 c0,.slice A1 n1 c1,.slice A2 n2 c2,.slice A3 n3 c3,.slice A4 n4 c4,.int .i64 sq] 28))):=qz (Ti15.start hs (Bx14.new hs) (by omega) (by simp));have HC:=qz hcl;have HL1:=qz hs.l1;have hnb:=hs.m1
 have t1:=HX0.out.b.x.cell 1;clear hs hcl;go_enter Tryz.func108,Tryz.ntmps108;go_wp2_with fail;clear t1;go_loopw [4,10] (fun v i wr => ∃ (k:Nat) (A:Option Addr) (m c:Nat),v = .slice A m c/\i = .int .i64 (k:Int)/\k<=n1/\Hid (Ti15 w (w.heap.size + 1) S A0 A1 A2 A3 A4 n0 n1 n2 n3 n4 c0 c1 c2 c3 c4 sq A m c (tks15 S p k) wr)) (fun _ i _ => n1 - (intOf i).toNat)
 case atStart => exact ⟨0,none,0,0,rfl,rfl,by omega,HX0⟩
 case round =>
  obtain ⟨k,A,m,c,rfl,rfl,hk,HW⟩:=hrel;by_cases hkn:k < n1
  ·
   obtain ⟨a,of,hA,hab,hq⟩:=Lq.at_ len14T (by omega) HW.out.b.s.r1 (show k < S.T.length by have:=HL1.out; omega);obtain ⟨x,hx⟩:=exq (gt14 S.T k);rw [hx] at hq;obtain ⟨xu,xc,xa,xk,xt,xo⟩:=x;have e0:wr.cell? ⟨a,of + k * 6,none⟩ = some (.bool xu):=hq 0 _ rfl;have e1:wr.cell? ⟨a,of + k * 6 + 1,none⟩ = some (.int .i64 xc):=hq 1 _ rfl
   have e2:wr.cell? ⟨a,of + k * 6 + 2,none⟩ = some (.int .i64 xa):=hq 2 _ rfl;have e3:wr.cell? ⟨a,of + k * 6 + 3,none⟩ = some (.int .i64 xk):=hq 3 _ rfl;have e4:wr.cell? ⟨a,of + k * 6 + 4,none⟩ = some (.int .i64 xt):=hq 4 _ rfl;have e5:wr.cell? ⟨a,of + k * 6 + 5,none⟩ = some (.bool xo):=hq 5 _ rfl;have i0:(0:Int)<=(k:Int):=by omega
   have i1:(k:Int) < (n1:Int):=by omega
   have HV:=qz (Ti15.step HW.out (b1' wr (.cells #[.bool xu,.int .i64 xc,.int .i64 xa,.int .i64 xk,.int .i64 xt,.bool xo] 55)));have hv:=Blk.new wr 55 #[.bool xu,.int .i64 xc,.int .i64 xa,.int .i64 xk,.int .i64 xt,.bool xo];obtain ⟨v0,v1,v2,v3,v4,v5⟩:=ce6 hv;have HVB:=qz hv
   have HNX:Hid (tks15 S p (k + 1) = tks15 S p k ++ if (xu && p ⟨xu,xc,xa,xk,xt,xo⟩) then [k] else []):=qz (by
    have h:=all11_next (fun j => (gt14 S.T j).u && p (gt14 S.T j)) k;rw [hx] at h
    exact h)
   obtain ⟨X,hX⟩:=exq (wr.alloc (.cells #[.bool xu,.int .i64 xc,.int .i64 xa,.int .i64 xk,.int .i64 xt,.bool xo] 55));rw [hX] at HV HVB v0 v1 v2 v3 v4 v5;have hmk:m<=k:=by rw [<- HW.out.l]; exact tks15_len S p k
   clear hv hq hx hab;subst hA
   cases xu with
   | false =>
    have HN:=qz (HV.out.congr (ys:=tks15 S p (k + 1)) (by rw [HNX.out]; simp));go_wp2_with fail;go_roundw
    case rel => exact ⟨k + 1,A,m,c,rfl,by go_num,by omega,HN⟩
    case measure => simp [intOf]; omega
   | true =>
    obtain ⟨bp,hbp⟩:=exq (p ⟨true,xc,xa,xk,xt,xo⟩);have hc:=HC.out X HV.out.b.b true xc xa xk xt xo;rw [hbp] at hc HNX;have HCK:=qz hc;clear hbp hc
    cases bp with
    | false =>
     go_wp2_with fail;refine HCK.out.mono ?_;rintro e w2 ⟨rfl,hb2⟩;have HN:=qz ((HV.out.step hb2).congr (ys:=tks15 S p (k + 1)) (by rw [HNX.out]; simp));clear HCK hb2;go_wp2_with fail;go_roundw
     case rel => exact ⟨k + 1,A,m,c,rfl,by go_num,by omega,HN⟩
     case measure => simp [intOf]; omega
    | true =>
     go_wp2_with fail;refine HCK.out.mono ?_;rintro e w2 ⟨rfl,hb2⟩;obtain ⟨Az,cz,W2,hrun,har,_⟩:=(HV.out.step hb2).push k (by omega);have HRUN:=qz hrun;have HAR:=qz (har.congr (ys:=tks15 S p (k + 1)) (by rw [HNX.out]; simp));clear HCK hb2 hrun har
     go_wp2_with (at_builtin; go_loud (refine wpList_append_14 _ rfl (.tmp 22) (.tmp 24) 26 rfl _ _ _ _ rfl rfl HRUN.out ?_));go_roundw
     case rel => exact ⟨k + 1,Az,m + 1,cz,rfl,by go_num,by omega,HAR⟩
     case measure => simp [intOf]; omega
  ·
   obtain rfl:k = n1:=by omega
   have HL:=qz HW.out.l;have h1:¬ (k:Int) < (k:Int):=by omega
   go_wp2_with fail;go_ret;rw [HP.out];exact ⟨A,c,by rw [HL.out]; rfl,HW.out.rd,HW.out.b.b⟩
def isd15 (S:Sv14) (c:Int):List Nat:=if us14 usC S.C c = true then tks15 S (isw15 c) S.T.length else []
def bck15 (S:Sv14) (c:Int):List Nat:=if us14 usC S.C c = true then tks15 S (fnd15 2 c) S.T.length else []
def ofs15 (S:Sv14) (i:Int):List Nat:=if us14 usH S.H i = true then tks15 S (fnd15 1 i) S.T.length else []
theorem funding15 (v:Value) (S:Sv14) (kd c:Int) (w:World) (h:St14 w v S) :
  Calls Tryz.prog 93 #[v,.int .i64 kd,.int .i64 c] w (RetR15 w (tks15 S (fnd15 kd c) S.T.length)):=by
 obtain ⟨A0,A1,A2,A3,A4,n0,n1,n2,n3,n4,c0,c1,c2,c3,c4,sq,rfl,hs⟩:=h;have hx0:=Bx14.new hs;have hxn:=hx0.step (Below.refl _ _).drew;obtain ⟨W1,hW1⟩:=exq (w.alloc (.cells #[.slice A0 n0 c0,.slice A1 n1 c1,.slice A2 n2 c2,.slice A3 n3 c3,.slice A4 n4 c4,.int .i64 sq] 28));rw [hW1] at hx0 hxn;have hb2:=b1' W1 (.cells #[.int .i64 kd] 3)
 have hk2:=Blk.new W1 3 #[.int .i64 kd];have hx2:=hx0.step hb2;have hz1:W1.heap.size = w.heap.size + 1:=by rw [<- hW1]; simp
 rw [hz1] at hk2;have hz2:(W1.alloc (.cells #[.int .i64 kd] 3)).heap.size = w.heap.size + 2:=by simp [hz1]
 obtain ⟨W2,hW2⟩:=exq (W1.alloc (.cells #[.int .i64 kd] 3));rw [hW2] at hb2 hk2 hx2 hz2;have hb3:=b1' W2 (.cells #[.int .i64 c] 3);have hj3:=Blk.new W2 3 #[.int .i64 c];have hk3:=hk2.below hb3 hk2.lt;have hx3:=hx2.step hb3;rw [hz2] at hj3;obtain ⟨W3,hW3⟩:=exq (W2.alloc (.cells #[.int .i64 c] 3));rw [hW3] at hb3 hj3 hk3 hx3
 have HT:=qz (tickets15f _ S (w.heap.size + 1) (w.heap.size + 2) W3 hx3.st (fnd15 kd c) (fun W hW xu xc xa xk xt xo => fuc15 xu xc xa xk xt xo _ _ kd c W ((hk3.below hW hk3.lt).cell 0) ((hj3.below hW hj3.lt).cell 0)));have HX3:=qz hx3;obtain ⟨x0,x1,x2,x3,x4,x5⟩:=ce6 hx3.x
 have HP:Hid (RetR15 w (tks15 S (fnd15 kd c) S.T.length) = fun e w' => ∃ A c2,e = .returned (.slice A (tks15 S (fnd15 kd c) S.T.length).length c2)/\Rd w' w'.heap.size A (tks15 S (fnd15 kd c) S.T.length)/\Below w.heap.size w w'):=qz rfl;clear hs hx0 hxn hb2 hk2 hx2 hb3 hj3 hk3 hx3;go_enter Tryz.func93,Tryz.ntmps93;go_wp2_with fail;refine HT.out.mono ?_
 rintro e w4 ⟨A,c2,rfl,hr4,hb4⟩;have HR4:=qz hr4;have HB4:=qz (HX3.out.b.trans (hb4.mono HX3.out.b.size));clear HT hr4 hb4;go_wp2_with fail;go_ret;rw [HP.out];exact ⟨A,c2,rfl,HR4.out,HB4.out⟩
theorem backing15 (v:Value) (S:Sv14) (c:Int) (w:World) (h:St14 w v S) :
  Calls Tryz.prog 124 #[v,.int .i64 c] w (RetR15 w (bck15 S c)):=by
 obtain ⟨A0,A1,A2,A3,A4,n0,n1,n2,n3,n4,c0,c1,c2,c3,c4,sq,rfl,hs⟩:=h;have hx0:=Bx14.new hs;have hxn:=hx0.step (Below.refl _ _).drew;obtain ⟨W1,hW1⟩:=exq (w.alloc (.cells #[.slice A0 n0 c0,.slice A1 n1 c1,.slice A2 n2 c2,.slice A3 n3 c3,.slice A4 n4 c4,.int .i64 sq] 28));rw [hW1] at hx0 hxn;obtain ⟨bc,hbc⟩:=exq (us14 usC S.C c)
 have HCC:=qz (coin14 _ S c bc W1 hx0.st hbc);have HX1:=qz hx0;obtain ⟨x0,x1,x2,x3,x4,x5⟩:=ce6 hx0.x;have HP:Hid (RetR15 w (bck15 S c) = fun e w' => ∃ A c2,e = .returned (.slice A (bck15 S c).length c2)/\Rd w' w'.heap.size A (bck15 S c)/\Below w.heap.size w w'):=qz rfl
 have HE:Hid (bck15 S c = if bc then tks15 S (fnd15 2 c) S.T.length else []):=qz (by rw [bck15,hbc]);clear hs hx0 hxn hbc;go_enter Tryz.func124,Tryz.ntmps124;go_wp2_with fail;refine HCC.out.mono ?_;rintro e w3 ⟨rfl,hb3⟩;have HX3:=qz (HX1.out.step hb3);clear HCC hb3
 cases bc with
 | false =>
  go_wp2_with fail;go_ret;rw [HP.out,HE.out]
  exact ⟨none,0,rfl,fun h => absurd rfl h,HX3.out.b⟩
 | true =>
  obtain ⟨y0,y1,y2,y3,y4,y5⟩:=ce6 HX3.out.x;have HT:=qz (funding15 _ S 2 c w3 HX3.out.st);go_wp2_with fail;refine HT.out.mono ?_;rintro e w4 ⟨A,c2,rfl,hr4,hb4⟩;have HR4:=qz hr4;have HB4:=qz (HX3.out.b.trans (hb4.mono HX3.out.b.size));clear HT hr4 hb4;go_wp2_with fail;go_ret;rw [HP.out,HE.out];exact ⟨A,c2,rfl,HR4.out,HB4.out⟩
theorem of15 (v:Value) (S:Sv14) (i:Int) (w:World) (h:St14 w v S) :
  Calls Tryz.prog 75 #[v,.int .i64 i] w (RetR15 w (ofs15 S i)):=by
 obtain ⟨A0,A1,A2,A3,A4,n0,n1,n2,n3,n4,c0,c1,c2,c3,c4,sq,rfl,hs⟩:=h;have hx0:=Bx14.new hs;have hxn:=hx0.step (Below.refl _ _).drew;obtain ⟨W1,hW1⟩:=exq (w.alloc (.cells #[.slice A0 n0 c0,.slice A1 n1 c1,.slice A2 n2 c2,.slice A3 n3 c3,.slice A4 n4 c4,.int .i64 sq] 28));rw [hW1] at hx0 hxn;obtain ⟨bc,hbc⟩:=exq (us14 usH S.H i)
 obtain ⟨y,hy⟩:=exq (at14 usH S.H i);obtain ⟨xz,xf,xc,xq,xu⟩:=y;have HCC:=qz (thread14 _ S i xz xf xc xq xu bc W1 hx0.st hbc hy);have HX1:=qz hx0;obtain ⟨x0,x1,x2,x3,x4,x5⟩:=ce6 hx0.x;have HP:Hid (RetR15 w (ofs15 S i) = fun e w' => ∃ A c2,e = .returned (.slice A (ofs15 S i).length c2)/\Rd w' w'.heap.size A (ofs15 S i)/\Below w.heap.size w w'):=qz rfl
 have HE:Hid (ofs15 S i = if bc then tks15 S (fnd15 1 i) S.T.length else []):=qz (by rw [ofs15,hbc]);clear hs hx0 hxn hbc hy;go_enter Tryz.func75,Tryz.ntmps75;go_wp2_with fail;refine HCC.out.mono ?_;rintro e w3 ⟨rfl,hb3⟩;have hx3:=HX1.out.step hb3
 have HX4:=qz (hx3.step (b1' w3 (.cells #[.int .i64 xz,.int .i64 xf,.int .i64 xc,.int .i64 xq,.int .i64 xu] 60)));obtain ⟨w4,hw4⟩:=exq (w3.alloc (.cells #[.int .i64 xz,.int .i64 xf,.int .i64 xc,.int .i64 xq,.int .i64 xu] 60));rw [hw4] at HX4;clear HCC hb3 hx3
 cases bc with
 | false =>
  go_wp2_with fail;go_ret;rw [HP.out,HE.out]
  exact ⟨none,0,rfl,fun h => absurd rfl h,HX4.out.b⟩
 | true =>
  obtain ⟨y0,y1,y2,y3,y4,y5⟩:=ce6 HX4.out.x;have HT:=qz (funding15 _ S 1 i w4 HX4.out.st);go_wp2_with fail;refine HT.out.mono ?_;rintro e w5 ⟨A,c2,rfl,hr4,hb4⟩;have HR4:=qz hr4;have HB4:=qz (HX4.out.b.trans (hb4.mono HX4.out.b.size));clear HT hr4 hb4;go_wp2_with fail;go_ret;rw [HP.out,HE.out];exact ⟨A,c2,rfl,HR4.out,HB4.out⟩
theorem told15_pre {A:List (Nat × Nat)} {n:Nat} {os:List Nat} (h:Told13 A n os) (us:Nat->Bool):∀ k,k < (os.filter us).length->∀ f,(f,nth (os.filter us) k)∈A->us f = true->f∈(os.filter us).take k:=by
 induction h with
 | nil => intro k hk; simp at hk
 | @next os i h1 h2 h3 ih =>
  intro k hk f hf hu
  have e0:(os ++ [i]).filter us = os.filter us ++ if us i then [i] else []:=by
   rw [List.filter_append]
   congr 1
   cases hi:us i <;> simp [hi]
  rw [e0] at hk;rw [e0] at hf;rw [e0]
  cases hi:us i with
  | false =>
   rw [hi] at hk hf;simp only [Bool.false_eq_true,if_false,List.append_nil] at hk hf ⊢
   exact ih k hk f hf hu
  | true =>
   rw [hi] at hk hf;simp only [if_true] at hk hf ⊢;rcases Nat.lt_or_ge k (os.filter us).length with h | h
   ·
    rw [nth15_low h] at hf;rw [List.take_append_of_le_length (by omega)];exact ih k h f hf hu
   ·
    obtain rfl:k = (os.filter us).length:=by
     rw [List.length_append,List.length_singleton] at hk;omega
    rw [nth15_at rfl] at hf;rw [List.take_left];exact List.mem_filter.2 ⟨h2.2.2 f hf,hu⟩
theorem carr15_mem {S:Sv14} {a b:Int}:∀ {n:Nat},(a,b)∈cArr14 S n↔∃ j,j < n/\(gt14 S.T j).u = true/\(gt14 S.T j).k = 2/\(gt14 S.T j).c = a/\(gt14 S.T j).t = b
 | 0 => by simp [cArr14]
 | n + 1 => by
  rw [cArr14,List.mem_append,carr15_mem (n:=n)];constructor
  ·
   rintro (⟨j,h1,h2⟩ | h)
   · exact ⟨j,by omega,h2⟩
   ·
    split at h
    ·
     next h3 =>
     rw [List.mem_singleton] at h;injection h with h4 h5
     exact ⟨n,by omega,h3.1,h3.2,h4.symm,h5.symm⟩
    · cases h
  ·
   rintro ⟨j,h1,h2,h3,h4,h5⟩;rcases (show j < n\/j = n by omega) with h6 | rfl
   · exact .inl ⟨j,h6,h2,h3,h4,h5⟩
   ·
    right;rw [if_pos ⟨h2,h3⟩,List.mem_singleton,h4,h5]
theorem ca15_mem {S:Sv14} {f x:Nat}:(f,x)∈Ca15 S↔(∃ j,Bck15 S x j/\(gt14 S.T j).c = (f:Int))/\f < S.C.length/\x < S.C.length:=by
 unfold Ca15;rw [cut13_mem,carr15_mem];constructor
 ·
  rintro ⟨⟨j,h1,h2,h3,h4,h5⟩,h6⟩;exact ⟨⟨j,⟨h1,h2,h3,h5⟩,h4⟩,h6⟩
 ·
  rintro ⟨⟨j,⟨h1,h2,h3,h5⟩,h4⟩,h6⟩;exact ⟨⟨j,h1,h2,h3,h4,h5⟩,h6⟩
theorem us15_lt {S:Sv14} {i:Int} (h:us14 usC S.C i = true):0<=i/\i < (S.C.length:Int):=Classical.byContradiction (fun hn => by rw [us14_off def14C hn] at h; cases h)
theorem bck15_mem {S:Sv14} {x:Nat} {j:Nat} (hx:us14 usC S.C (x:Int) = true):j∈bck15 S (x:Int)↔Bck15 S x j:=by
 rw [bck15,if_pos hx,tks15_mem,fnd15,decide_eq_true_iff];exact Iff.rfl
theorem ord15_used {S:Sv14} {os:List Nat} {k:Nat} (hk:k < (ord15 S os).length):us14 usC S.C ((nth (ord15 S os) k:Nat):Int) = true:=by
 have h:nth (ord15 S os) k∈ord15 S os:=by rw [nth_in hk]; exact List.getElem_mem _
 exact (List.mem_filter.1 h).2
theorem take15_next {ns:List Nat} {k:Nat} (hk:k < ns.length):ns.take (k + 1) = ns.take k ++ [nth ns k]:=by
 rw [List.take_add_one,List.getElem?_eq_getElem hk,nth_in hk];rfl
def Liv16 (S:Sv14) (i:Int):Prop:=∃ (k:Nat) (l:List Nat),i = (k:Int)/\us14 usH S.H i = true/\Chn16 S k l/\((gt14 S.H (lst16 l)).s = 2\/(gt14 S.H (lst16 l)).s = 3)
inductive Cnt17 (S:Sv14):Nat->Prop
 | thr {k:Nat}:k < S.T.length->(gt14 S.T k).u = true->(gt14 S.T k).o = true->(gt14 S.T k).k = 1->Liv16 S (gt14 S.T k).t->Cnt17 S k
 | coin {k j:Nat}:k < S.T.length->(gt14 S.T k).u = true->(gt14 S.T k).o = true->(gt14 S.T k).k = 2->(gt14 S.T j).c = (gt14 S.T k).t->Cnt17 S j->Cnt17 S k
theorem cnt17_iff {S:Sv14} {k:Nat}:Cnt17 S k↔k < S.T.length/\(gt14 S.T k).u = true/\(gt14 S.T k).o = true/\((gt14 S.T k).k = 1/\Liv16 S (gt14 S.T k).t\/(gt14 S.T k).k = 2/\∃ j,(gt14 S.T j).c = (gt14 S.T k).t/\Cnt17 S j):=by
 constructor
 ·
  intro h
  cases h with
  | thr h1 h2 h3 h4 h5 => exact ⟨h1,h2,h3,.inl ⟨h4,h5⟩⟩
  | coin h1 h2 h3 h4 h5 h6 => exact ⟨h1,h2,h3,.inr ⟨h4,_,h5,h6⟩⟩
 ·
  rintro ⟨h1,h2,h3,⟨h4,h5⟩ | ⟨h4,j,h5,h6⟩⟩
  · exact .thr h1 h2 h3 h4 h5
  · exact .coin h1 h2 h3 h4 h5 h6
theorem Cnt17.lt {S:Sv14} {k:Nat} (h:Cnt17 S k):k < S.T.length/\(gt14 S.T k).u = true:=⟨(cnt17_iff.1 h).1,(cnt17_iff.1 h).2.1⟩
open Classical in
noncomputable def cntb17 (S:Sv14) (k:Nat):Bool:=decide (Cnt17 S k)
theorem cntb17_yes {S:Sv14} {k:Nat}:cntb17 S k = true↔Cnt17 S k:=by
 unfold cntb17;exact @decide_eq_true_iff _ (Classical.propDecidable _)
noncomputable def amt17 (S:Sv14) (c:Int):Nat->Int
 | 0 => 0
 | n + 1 => amt17 S c n + if (gt14 S.T n).c = c/\cntb17 S n = true then (gt14 S.T n).a else 0
theorem amt17_bound {S:Sv14} (hT:Tickets14 S) (c:Int) (n:Nat):0<=amt17 S c n/\amt17 S c n<=(n:Int) * 1048576:=by
 induction n with
 | zero => simp [amt17]
 | succ n ih =>
  rw [amt17];split
  ·
   next h =>
   have h1:=(cntb17_yes.1 h.2).lt;have h2:=hT n h1.1 h1.2;have:=h2.2.1;have:=h2.2.2.1;omega
  · omega
theorem amt17_pos {S:Sv14} (hT:Tickets14 S) (c:Int) (n:Nat):0 < amt17 S c n↔∃ j,j < n/\(gt14 S.T j).c = c/\Cnt17 S j:=by
 induction n with
 | zero => simp [amt17]
 | succ n ih =>
  have hb:=amt17_bound hT c n;rw [amt17];constructor
  ·
   intro h;split at h
   · next h1 => exact ⟨n,by omega,h1.1,cntb17_yes.1 h1.2⟩
   ·
    obtain ⟨j,h2,h3⟩:=ih.1 (by omega);exact ⟨j,by omega,h3⟩
  ·
   rintro ⟨j,h1,h2,h3⟩;rcases (show j < n\/j = n by omega) with h4 | rfl
   ·
    have h5:=ih.2 ⟨j,h4,h2,h3⟩;split
    ·
     next h =>
     have h6:=(cntb17_yes.1 h.2).lt;have h7:=(hT n h6.1 h6.2).2.1;omega
    · omega
   ·
    rw [if_pos ⟨h2,cntb17_yes.2 h3⟩];have h7:=(hT j h3.lt.1 h3.lt.2).2.1;omega
theorem amt17_all {S:Sv14} (hT:Tickets14 S) (c:Int):0 < amt17 S c S.T.length↔∃ j,(gt14 S.T j).c = c/\Cnt17 S j:=by
 rw [amt17_pos hT];exact ⟨fun ⟨j,_,h⟩ => ⟨j,h⟩,fun ⟨j,h1,h2⟩ => ⟨j,h2.lt.1,h1,h2⟩⟩
def sumR (f:Nat->Rat):Nat->Rat
 | 0 => 0
 | n + 1 => sumR f n + f n
theorem sumR_congr {f g:Nat->Rat} {n:Nat} (h:∀ k,k < n->f k = g k):sumR f n = sumR g n:=by
 induction n with
 | zero => rfl
 | succ n ih => rw [sumR,sumR,ih (fun k hk => h k (by omega)),h n (by omega)]
theorem sumR_zero (n:Nat):sumR (fun _ => 0) n = 0:=by
 induction n with
 | zero => rfl
 | succ n ih => rw [sumR,ih]; grind
theorem sumR_all {f:Nat->Rat} {n:Nat} (h:∀ k,k < n->f k = 0):sumR f n = 0:=(sumR_congr h).trans (sumR_zero n)
theorem sumR_add (f g:Nat->Rat) (n:Nat):sumR (fun k => f k + g k) n = sumR f n + sumR g n:=by
 induction n with
 | zero => show (0:Rat) = 0 + 0; grind
 | succ n ih => rw [sumR,sumR,sumR,ih]; grind
theorem sumR_mul (f:Nat->Rat) (x:Rat) (n:Nat):sumR (fun k => f k * x) n = sumR f n * x:=by
 induction n with
 | zero => show (0:Rat) = 0 * x; grind
 | succ n ih => rw [sumR,sumR,ih]; grind
theorem sumR_swap (f:Nat->Nat->Rat) (n m:Nat):sumR (fun i => sumR (fun k => f i k) m) n = sumR (fun k => sumR (fun i => f i k) n) m:=by
 induction n with
 | zero =>
  rw [sumR]
  exact (sumR_zero m).symm
 | succ n ih =>
  rw [sumR,ih,<- sumR_add];exact sumR_congr (fun k _ => rfl)
theorem sumR_one {x:Nat} (v:Rat) (n:Nat):sumR (fun i => if i = x then v else 0) n = if x < n then v else 0:=by
 induction n with
 | zero => simp [sumR]
 | succ n ih =>
  rw [sumR,ih];by_cases h1:x < n
  ·
   rw [if_pos h1,if_neg (by omega),if_pos (by omega)]
   grind
  ·
   by_cases h2:n = x
   ·
    rw [if_neg h1,if_pos h2,if_pos (by omega)]
    grind
   ·
    rw [if_neg h1,if_neg h2,if_neg (by omega)]
    grind
theorem sumR_at {x:Int} {v:Rat} {n:Nat} (h:v≠0->0<=x/\x < (n:Int)):sumR (fun (i:Nat) => if x = (i:Int) then v else 0) n = v:=by
 by_cases hv:v = 0
 ·
  rw [hv];exact sumR_all (fun k _ => by split <;> rfl)
 ·
  have h1:=h hv;rw [sumR_congr (g:=fun i => if i = x.toNat then v else 0) (fun k _ => ?_),sumR_one,if_pos (by omega)];by_cases h2:x = (k:Int)
  · rw [if_pos h2,if_pos (by omega)]
  · rw [if_neg h2,if_neg (by omega)]
structure Wo18 (S:Sv14) (wC wT:Nat->Rat):Prop where
 t:∀ k,wT k = if cntb17 S k = true then (if (gt14 S.T k).c = 0 then ((gt14 S.T k).a:Rat) else ((gt14 S.T k).a:Rat) / ((amt17 S (gt14 S.T k).c S.T.length:Int):Rat) * wC (gt14 S.T k).c.toNat) else 0
 c:∀ c,wC c = if c = 0 then ((amt17 S 0 S.T.length:Int):Rat) else sumR (fun k => if (gt14 S.T k).u = true/\(gt14 S.T k).k = 2/\(gt14 S.T k).t = (c:Int) then wT k else 0) S.T.length
theorem Wo18.none {S:Sv14} {wC wT:Nat->Rat} (h:Wo18 S wC wT) {k:Nat} (hk:¬ Cnt17 S k):wT k = 0:=by
 rw [h.t,if_neg (by rw [cntb17_yes]; exact hk)]
theorem Wo18.counts {S:Sv14} {wC wT:Nat->Rat} (h:Wo18 S wC wT) {k:Nat} (hk:wT k≠0):Cnt17 S k:=Classical.byContradiction (fun hn => hk (h.none hn))
theorem amt18_sum (S:Sv14) (c:Int) (n:Nat):sumR (fun k => if (gt14 S.T k).c = c/\cntb17 S k = true then ((gt14 S.T k).a:Rat) else 0) n = ((amt17 S c n:Int):Rat):=by
 induction n with
 | zero => simp [sumR,amt17]
 | succ n ih =>
  rw [sumR,ih,amt17];split
  · simp [Rat.intCast_add]
  ·
   rw [Int.add_zero]
   grind
def th18 (S:Sv14) (wT:Nat->Rat) (i:Nat):Rat:=sumR (fun k => if (gt14 S.T k).u = true/\(gt14 S.T k).k = 1/\(gt14 S.T k).t = (i:Int) then wT k else 0) S.T.length
theorem Wo18.coin {S:Sv14} {wC wT:Nat->Rat} (h:Wo18 S wC wT) (c:Nat) (ha:amt17 S (c:Int) S.T.length≠0) :
  sumR (fun k => if (gt14 S.T k).c = (c:Int) then wT k else 0) S.T.length = wC c:=by
 by_cases h0:c = 0
 ·
  subst h0;rw [h.c 0,if_pos rfl,<- amt18_sum S 0 S.T.length];refine sumR_congr (fun k _ => ?_);by_cases h1:(gt14 S.T k).c = 0
  ·
   rw [if_pos (by simpa using h1),h.t k];by_cases h2:cntb17 S k = true
   · rw [if_pos h2,if_pos h1,if_pos ⟨h1,h2⟩]
   · rw [if_neg h2,if_neg (fun e => h2 e.2)]
  · rw [if_neg (by simpa using h1),if_neg (fun e => h1 e.1)]
 ·
  obtain ⟨x,hx⟩:∃ x:Rat,x = ((amt17 S (c:Int) S.T.length:Int):Rat):=⟨_,rfl⟩
  have hx0:x≠0:=by
   rw [hx];exact fun e => ha (by exact_mod_cast e)
  rw [sumR_congr (g:=fun k => (if (gt14 S.T k).c = (c:Int)/\cntb17 S k = true then ((gt14 S.T k).a:Rat) else 0) * (wC c / x)) (fun k _ => ?_),sumR_mul,amt18_sum,<- hx]
  · grind
  ·
   by_cases h1:(gt14 S.T k).c = (c:Int)
   ·
    rw [if_pos h1,h.t k];by_cases h2:cntb17 S k = true
    ·
     rw [if_pos h2,if_neg (by omega),if_pos ⟨h1,h2⟩,h1,<- hx,Int.toNat_natCast]
     grind
    ·
     rw [if_neg h2,if_neg (fun e => h2 e.2)]
     grind
   ·
    rw [if_neg h1,if_neg (fun e => h1 e.1)]
    grind
theorem Wo18.keeps {S:Sv14} {wC wT:Nat->Rat} (h:Wo18 S wC wT) (hf:Fine14 S):sumR (th18 S wT) S.H.length = ((amt17 S 0 S.T.length:Int):Rat):=by
 have hT:Tickets14 S:=hf.2.2.2.2.1;have h0:us14 usC S.C 0 = true:=hf.2.2.2.1
 have hkind:∀ k,wT k≠0->(gt14 S.T k).u = true/\(0<=(gt14 S.T k).c/\(gt14 S.T k).c < (S.C.length:Int))/\((gt14 S.T k).k = 1/\(0<=(gt14 S.T k).t/\(gt14 S.T k).t < (S.H.length:Int))\/(gt14 S.T k).k = 2/\(gt14 S.T k).t≠0/\(0<=(gt14 S.T k).t/\(gt14 S.T k).t < (S.C.length:Int))/\amt17 S (gt14 S.T k).t S.T.length≠0):=by
  intro k hk;have hc:=h.counts hk;have hl:=hc.lt;have ht:=hT k hl.1 hl.2;refine ⟨hl.2,us15_lt ht.1,?_⟩;rcases (cnt17_iff.1 hc).2.2.2 with ⟨h1,_⟩ | ⟨h1,j,h2,h3⟩
  ·
   rcases ht.2.2.2 with h4 | h4 | h4
   · rw [h1] at h4; exact absurd h4.1 (by decide)
   · exact .inl ⟨h1,ush16_lt h4.2⟩
   · rw [h1] at h4; exact absurd h4.1 (by decide)
  ·
   rcases ht.2.2.2 with h4 | h4 | h4
   · rw [h1] at h4; exact absurd h4.1 (by decide)
   · rw [h1] at h4; exact absurd h4.1 (by decide)
   ·
    have h5:=(amt17_all hT (gt14 S.T k).t).2 ⟨j,h2,h3⟩;exact .inr ⟨h1,h4.2.1,us15_lt h4.2.2,by omega⟩
 obtain ⟨G,hG⟩:∃ G:Nat->Rat,∀ c,G c = sumR (fun k => if (gt14 S.T k).u = true/\(gt14 S.T k).k = 2/\(gt14 S.T k).t = (c:Int) then wT k else 0) S.T.length:=⟨fun c => _,fun c => rfl⟩
 have e1:sumR (th18 S wT) S.H.length = sumR (fun k => if (gt14 S.T k).k = 1 then wT k else 0) S.T.length:=by
  unfold th18;rw [sumR_swap];refine sumR_congr (fun k _ => ?_);by_cases h1:(gt14 S.T k).k = 1
  ·
   rw [if_pos h1]
   have h2:=sumR_at (x:=(gt14 S.T k).t) (v:=wT k) (n:=S.H.length) (fun hv => by
    rcases (hkind k hv).2.2 with h3 | h3
    · exact h3.2
    · rw [h1] at h3; exact absurd h3.1 (by decide))
   rw [<- h2];refine sumR_congr (fun i _ => ?_);rw [h2];by_cases hv:wT k = 0
   ·
    rw [hv];split <;> split <;> rfl
   ·
    have h4:=(hkind k hv).1;by_cases h5:(gt14 S.T k).t = (i:Int)
    · rw [if_pos ⟨h4,h1,h5⟩,if_pos h5]
    · rw [if_neg (fun e => h5 e.2.2),if_neg h5]
  ·
   rw [if_neg h1];exact sumR_all (fun i _ => by rw [if_neg (fun e => h1 e.2.1)])
 have e2:sumR G S.C.length = sumR (fun k => if (gt14 S.T k).k = 2 then wT k else 0) S.T.length:=by
  rw [sumR_congr (g:=fun c => sumR (fun k => if (gt14 S.T k).u = true/\(gt14 S.T k).k = 2/\(gt14 S.T k).t = (c:Int) then wT k else 0) S.T.length) (fun c _ => hG c),sumR_swap];refine sumR_congr (fun k _ => ?_);by_cases h1:(gt14 S.T k).k = 2
  ·
   rw [if_pos h1]
   have h2:=sumR_at (x:=(gt14 S.T k).t) (v:=wT k) (n:=S.C.length) (fun hv => by
    rcases (hkind k hv).2.2 with h3 | h3
    · rw [h1] at h3; exact absurd h3.1 (by decide)
    · exact h3.2.2.1)
   rw [<- h2];refine sumR_congr (fun i _ => ?_);rw [h2];by_cases hv:wT k = 0
   ·
    rw [hv];split <;> split <;> rfl
   ·
    have h4:=(hkind k hv).1;by_cases h5:(gt14 S.T k).t = (i:Int)
    · rw [if_pos ⟨h4,h1,h5⟩,if_pos h5]
    · rw [if_neg (fun e => h5 e.2.2),if_neg h5]
  ·
   rw [if_neg h1];exact sumR_all (fun i _ => by rw [if_neg (fun e => h1 e.2.1)])
 have e3:sumR wT S.T.length = sumR (fun k => if (gt14 S.T k).k = 1 then wT k else 0) S.T.length + sumR (fun k => if (gt14 S.T k).k = 2 then wT k else 0) S.T.length:=by
  rw [<- sumR_add];refine sumR_congr (fun k _ => ?_);by_cases hv:wT k = 0
  ·
   rw [hv];split <;> split <;> grind
  ·
   rcases (hkind k hv).2.2 with h3 | h3
   ·
    rw [if_pos h3.1,if_neg (by rw [h3.1]; decide)]
    grind
   ·
    rw [if_neg (by rw [h3.1]; decide),if_pos h3.1]
    grind
 have e4:sumR wT S.T.length = sumR (fun c => sumR (fun k => if (gt14 S.T k).c = ((c:Nat):Int) then wT k else 0) S.T.length) S.C.length:=by
  rw [sumR_swap];exact sumR_congr (fun k _ => (sumR_at (fun hv => (hkind k hv).2.1)).symm)
 have hG0:∀ c:Nat,c = 0\/amt17 S (c:Int) S.T.length = 0->G c = 0:=by
  intro c hc;rw [hG];refine sumR_all (fun k _ => ?_);split
  ·
   next h1 =>
   refine Classical.byContradiction (fun hv => ?_);rcases (hkind k hv).2.2 with h3 | h3
   · rw [h1.2.1] at h3; exact absurd h3.1 (by decide)
   ·
    rcases hc with hc | hc
    ·
     rw [h1.2.2,hc] at h3;exact h3.2.1 rfl
    ·
     rw [h1.2.2] at h3;exact h3.2.2.2 hc
  · rfl
 have e5:∀ c:Nat,c < S.C.length->sumR (fun k => if (gt14 S.T k).c = ((c:Nat):Int) then wT k else 0) S.T.length = G c + if c = 0 then ((amt17 S 0 S.T.length:Int):Rat) else 0:=by
  intro c _;by_cases ha:amt17 S (c:Int) S.T.length = 0
  ·
   rw [hG0 c (.inr ha)]
   have e6:sumR (fun k => if (gt14 S.T k).c = ((c:Nat):Int) then wT k else 0) S.T.length = 0:=by
    refine sumR_all (fun k _ => ?_);split
    ·
     next h1 =>
     refine Classical.byContradiction (fun hv => ?_);have h2:=(amt17_all hT (c:Int)).2 ⟨k,h1,h.counts hv⟩;omega
    · rfl
   rw [e6];by_cases hc:c = 0
   ·
    subst hc;rw [if_pos rfl,show amt17 S 0 S.T.length = 0 from ha];simp
    try grind
   ·
    rw [if_neg hc]
    grind
  ·
   rw [h.coin c ha,h.c c];by_cases hc:c = 0
   ·
    rw [if_pos hc,if_pos hc,hG0 c (.inl hc)]
    grind
   ·
    rw [if_neg hc,if_neg hc,hG]
    grind
 have e7:sumR wT S.T.length = sumR G S.C.length + ((amt17 S 0 S.T.length:Int):Rat):=by
  rw [e4,sumR_congr e5,sumR_add]
  congr 1
  rw [sumR_one,if_pos (by have:=us15_lt h0; omega)]
 rw [e1];rw [e3,e2] at e7
 grind
end
end Go.Proofs.YtkdmnlihpebbkaaGreat
