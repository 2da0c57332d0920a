import Derived.Test.YtkdmnlihpebbkaaGreatCT11
set_option linter.all false
set_option maxHeartbeats 4000000
namespace Go.Proofs.YtkdmnlihpebbkaaGreat
section
theorem guess_near {u v E U3 V2 u' v' d Q B:Nat} (hu:u = U3 * E + u') (hu':u' < E) (hv:v = V2 * E + v') (hv':v' < E) (hV:B<=V2) (hd:d * V2<=U3) (hdB:d<=B)
  (hQ:Q * v<=u) (hQ2:u < (Q + 1) * v) (hup:U3 < (d + 1) * V2\/Q<=d):Q<=d/\d<=Q + 1:=by
 have hE:0 < E:=by omega
 constructor
 ·
  rcases hup with h | h
  ·
   have h1:Q * (V2 * E)<=Q * v:=Nat.mul_le_mul_left _ (by omega)
   have h2:(Q * V2) * E < (U3 + 1) * E:=by
    rw [Nat.mul_assoc,Nat.add_mul,Nat.one_mul]; omega
   have h3:Q * V2 < U3 + 1:=Nat.lt_of_mul_lt_mul_right h2;have h4:Q * V2 < (d + 1) * V2:=by omega
   have:=Nat.lt_of_mul_lt_mul_right h4;omega
  · exact h
 ·
  rcases Nat.eq_zero_or_pos d with rfl | h0
  · omega
  ·
   obtain ⟨e,rfl⟩:∃ e,d = e + 1:=⟨d - 1,by omega⟩
   have h1:e * v<=u:=by
    have h2:e * v<=e * ((V2 + 1) * E):=Nat.mul_le_mul_left _ (by rw [Nat.add_mul,Nat.one_mul]; omega)
    have h3:e * (V2 + 1)<=U3:=by
     have:e * (V2 + 1) = e * V2 + e:=by rw [Nat.mul_add,Nat.mul_one]
     have:(e + 1) * V2 = e * V2 + V2:=by rw [Nat.add_mul,Nat.one_mul]
     omega
    have h4:e * ((V2 + 1) * E)<=U3 * E:=by rw [<- Nat.mul_assoc]; exact Nat.mul_le_mul_right _ h3
    omega
   have h5:e * v < (Q + 1) * v:=by omega
   have:=Nat.lt_of_mul_lt_mul_right h5;omega
theorem guess_test {top digit first rest second third B:Nat} (h:top = digit * first + rest):digit * second<=rest * B + third↔digit * (first * B + second)<=top * B + third:=by
 subst h;rw [Nat.mul_add,Nat.add_mul,Nat.mul_assoc];omega
theorem guess_rest {top digit first rest second third B:Nat} (h:top = digit * first + rest) (ht:top < (first + 1) * B) (hr:B<=rest) (hs:second < B):digit < B/\digit * (first * B + second)<=top * B + third:=by
 have hd:digit < B:=by
  rcases Nat.lt_or_ge digit B with h1 | h1
  · exact h1
  ·
   have h2:B * first<=digit * first:=Nat.mul_le_mul_right _ h1
   rw [Nat.add_mul,Nat.one_mul,Nat.mul_comm first B] at ht;omega
 refine ⟨hd,(guess_test h).1 ?_⟩;have h1:digit * second<=B * B:=Nat.mul_le_mul (by omega) (by omega);have h2:B * B<=rest * B:=Nat.mul_le_mul_right _ hr;omega
theorem guess_back {top digit first rest:Nat} (h:top = (digit + 1) * first + rest):top = digit * first + (rest + first):=by
 rw [Nat.add_mul,Nat.one_mul] at h;omega
theorem once_more {P z v d Q T X:Nat} (h:P + X * T = z + d * v) (hz:z < X) (hQ:Q * v<=P) (hQ2:P < (Q + 1) * v) (hd:d = Q\/d = Q + 1) (hvX:v<=X) :
  (d = Q/\T = 0/\z = P - Q * v)\/(d = Q + 1/\T = 1/\z + v = X + (P - Q * v)):=by
 rcases hd with rfl | rfl
 ·
  left
  have:T = 0:=by
   rcases Nat.eq_zero_or_pos T with h0 | h0
   · exact h0
   ·
    have:X<=X * T:=Nat.le_mul_of_pos_right _ h0;omega
  subst this;exact ⟨rfl,rfl,by omega⟩
 ·
  right;rw [Nat.add_mul,Nat.one_mul] at h hQ2
  have hT:T = 1:=by
   rcases T with _ | _ | T
   · omega
   · rfl
   ·
    have:X * (T + 1 + 1) = X * T + X + X:=by rw [Nat.mul_add,Nat.mul_add,Nat.mul_one]
    have:=Nat.zero_le (X * T);omega
  subst hT;exact ⟨rfl,rfl,by omega⟩
end
section
open Go.RowKit
set_option maxRecDepth 100000
def ShIn (xs zs:List Nat) (s n k cr:Nat):Prop :=
 zs.length = n + 1/\Dg zs/\U (zs.take k) + 4294967296 ^ k * cr = U (xs.take k) * 2 ^ s/\cr < 2 ^ s
theorem ShIn.step {xs zs:List Nat} {s n k cr X:Nat} (h:ShIn xs zs s n k cr) (hk:k < n) (hx:nth xs k < 4294967296) (hX:cr + nth xs k * 2 ^ s = X) :
  ShIn xs (zs.set k (X % 4294967296)) s n (k + 1) (X / 4294967296):=by
 obtain ⟨hl,hd,hU,hc⟩:=h;refine ⟨by simp [hl],hd.set (by omega),?_,?_⟩
 ·
  rw [U_set_take (by omega),U_take_succ xs,Nat.pow_succ];have:=Nat.div_add_mod X 4294967296;generalize X / 4294967296 = q at *
  generalize X % 4294967296 = r at *
  generalize 4294967296 ^ k = P at *
  generalize 2 ^ s = S at *
  have e2:P * (4294967296 * q + r) = P * (cr + nth xs k * S):=by rw [this,hX]
  grind
 ·
  rw [Nat.div_lt_iff_lt_mul (by omega)];have h1:nth xs k * 2 ^ s<=4294967295 * 2 ^ s:=Nat.mul_le_mul_right _ (by omega);omega
theorem shift_small {x cr s:Nat} (hx:x < 4294967296) (hs:s<=31) (hc:cr < 2 ^ s):x * 2 ^ s < 9223372036854775808/\cr + x * 2 ^ s < 18446744073709551616:=by
 have h1:(2:Nat) ^ s<=2 ^ 31:=Nat.pow_le_pow_right (by omega) hs;have h2:(2:Nat) ^ 31 = 2147483648:=by decide
 have h3:x * 2 ^ s<=4294967295 * 2147483648:=Nat.mul_le_mul (by omega) (by omega);omega
theorem or_shift {x cr s:Nat} (hx:x < 4294967296) (hs:s<=31) (hc:cr < 2 ^ s):bits .or .u64 (cr:Int) ((x * 2 ^ s:Nat):Int) = ((cr + x * 2 ^ s:Nat):Int):=by
 obtain ⟨h1,h2⟩:=shift_small hx hs hc
 have e:cr ||| x * 2 ^ s = cr + x * 2 ^ s:=by
  rw [Nat.or_comm,Nat.mul_comm,<- Nat.two_pow_add_eq_or_of_lt hc,Nat.add_comm]
 have h3:=bits_or_u64_nat cr (x * 2 ^ s) (by omega) (by omega);rw [e] at h3;exact h3
theorem shiftUp_any (A:Option Addr) (xs:List Nat) (n c s:Nat) (w:World) (hl:xs.length = n) (hr:Ra w w.heap.size A xs) (hd:Dg xs) (hn:n<=100000) (hs:s<=31) :
  Calls Tryz.prog 142 #[.slice A n c,.int .i64 (s:Int)] w fun e w' => ∃ zs,e = .returned (.slice (some ⟨w.heap.size,0,none⟩) (n + 1) (n + 1))/\zs.length = n + 1/\Dg zs/\U zs = U xs * 2 ^ s/\Win w' w.heap.size 86 [] zs []/\Below w.heap.size w w':=by
 have HL:=qz hl;clear hl;obtain ⟨i0,hi0,hz0,hz1,hz2⟩:=info_parts info_u32;obtain ⟨N,hN⟩:=exq (n + 1);have HN:=qz hN;have hNi:(n:Int) + 1 = (N:Int):=by omega
 have hNb:N<=200000:=by omega
 rw [hN];clear hN;go_enter Tryz.func142,Tryz.ntmps142;go_wp2_with ((with_reducible refine wpList_make_full _ rfl (.tmp 11) (.tmp 11) 44 rfl w.heap.size 86 i0 (.int .u32 0) 1 Tryz.underlying44 hi0 hz0 hz1 .i64 .i64 _ _ N rfl rfl (by have:=HN.out; omega) (by have:=HN.out; omega) (by rw [hz2]; omega) (by unfold maxLen; omega) (by simp) ?_); intro w1 hown1 hg1)
 have hm0:Win w1 w.heap.size 86 [] (List.replicate N 0) []:=by
  rcases hown1.2 with ⟨h,_⟩ | ⟨g,cap,c,hv,_,hh,_,_,hsz,ht⟩
  · injection h with h; cases h
  ·
   injection hv with hv _ hcap
   injection hv with hv
   injection hv with hv
   subst hv hcap;unfold Win Blk;rw [hh]
   have:c = (u32s (List.replicate N 0)).toArray:=by
    rw [<- madeCells_u32s N,<- ht,List.take_of_length_le (by simp; omega)]
   rw [this]; simp
 have hb0:Below w.heap.size w w1:=(Below.refl _ _).grown hg1 (Nat.le_refl _) (by intro k hk; cases hk);have HM0:=qz hm0;have HB0:=qz hb0;clear hown1 hg1 hm0 hb0 hz0 hz1 hz2
 go_loopw [6,15] (fun cv iv wr => ∃ (k cr:Nat) (zs:List Nat),cv = .int .u64 (cr:Int)/\iv = .int .i64 (k:Int)/\k<=n/\ShIn xs zs s n k cr/\Win wr w.heap.size 86 [] zs []/\Below w.heap.size w wr) (fun _ iv _ => n - (intOf iv).toNat)
 case atStart => exact ⟨0,0,List.replicate N 0,rfl,rfl,by omega,⟨(List.length_replicate ..).trans HN.out.symm,zeros_dg N,by simp [U],Nat.pow_pos (by omega)⟩,HM0.out,HB0.out⟩
 case round =>
  obtain ⟨k,cr,zs,rfl,rfl,hk,hin,hwin,hB⟩:=hrel;clear HM0 HB0;have HI:=qz hin;have hzl:Hid (zs.length = N):=qz (hin.1.trans HN.out);have hcr:=qz hin.2.2.2;clear hin;by_cases hkn:k < n
  ·
   obtain ⟨b1,o1,hA1,hb1,cx⟩:=(hr.below hB (Nat.le_refl _)).at_ (k:=k) (by have:=HL.out; omega);subst hA1;have hxk:=hd.nth k;obtain ⟨x,hx⟩:=exq (nth xs k);rw [hx] at cx hxk;obtain ⟨h63,h64⟩:=shift_small hxk hs hcr.out;obtain ⟨X,hX⟩:=exq (cr + x * 2 ^ s);have hor:=or_shift hxk hs hcr.out
   have hst:=qz (HI.out.step (X:=X) hkn (by rw [hx]; exact hxk) (by rw [hx]; exact hX));rw [hX] at hor h64;obtain ⟨y,hy⟩:=exq (x * 2 ^ s)
   have hyi:IntKind.u64.wrap ((x:Int) * 2 ^ s) = (y:Int):=by
    have:(x:Int) * 2 ^ s = ((x * 2 ^ s:Nat):Int):=by simp
    rw [this,hy,IntWalk.u64_in _ (by omega)]
   rw [hy] at hor h63;have fz:=hwin.frozen k;have cz:=hwin.cell (o:=0) rfl (k:=k) (by have:=hzl.out; have:=HN.out; omega);rw [Nat.zero_add] at cz;have hkN:(k:Int) < (N:Int):=by have:=HN.out; omega
   clear hX hy hx;go_wp2_with fail;go_roundw
   case rel => exact ⟨k + 1,X / 4294967296,zs.set k (X % 4294967296),by go_num,by go_num,by omega,hst.out,by have h:=hwin.put (o:=0) (k:=k) rfl (d:=X % 4294967296) (u:=(X:Int) % 4294967296) (by have:=hzl.out; have:=HN.out; omega) (by omega); rwa [Nat.zero_add] at h,hB.setCell (by simp) _⟩
   case measure => simp [intOf]; omega
  ·
   obtain rfl:k = n:=by omega
   have fz:=hwin.frozen k;have cz:=hwin.cell (o:=0) rfl (k:=k) (by have:=hzl.out; have:=HN.out; omega);rw [Nat.zero_add] at cz;have hkN:(k:Int) < (N:Int):=by have:=HN.out; omega
   have hcb:cr < 4294967296:=by
    have h1:(2:Nat) ^ s<=2 ^ 31:=Nat.pow_le_pow_right (by omega) hs;have h2:(2:Nat) ^ 31 = 2147483648:=by decide
    have:=hcr.out;omega
   go_wp2_with fail;go_ret
   have hU:U (zs.set k cr) = U xs * 2 ^ s:=by
    have h1:=U_set_take (zs:=zs) (k:=k) (r:=cr) (by have:=hzl.out; have:=HN.out; omega);rw [U_take_all _ _ (by rw [List.length_set]; have:=hzl.out; have:=HN.out; omega),HI.out.2.2.1,U_take_all xs _ (by have:=HL.out; omega)] at h1;exact h1
   exact ⟨zs.set k cr,rfl,by rw [List.length_set]; exact hzl.out,HI.out.2.1.set hcb,hU,by have h:=hwin.put (o:=0) (k:=k) rfl (d:=cr) (u:=(cr:Int)) (by have:=hzl.out; have:=HN.out; omega) rfl; rwa [Nat.zero_add] at h,hB.setCell (by simp) _⟩
theorem drop_two {ys:List Nat} {k:Nat} (h:ys.length = k + 2):ys.drop k = [nth ys k,nth ys (k + 1)]:=by
 rw [List.drop_eq_getElem_cons (by omega),List.drop_eq_getElem_cons (by omega),List.drop_eq_nil_of_le (by omega),nth_in (by omega),nth_in (by omega)]
theorem drop_three {ys:List Nat} {k:Nat} (h:ys.length = k + 3):ys.drop k = [nth ys k,nth ys (k + 1),nth ys (k + 2)]:=by
 rw [List.drop_eq_getElem_cons (by omega),drop_two (k:=k + 1) (by omega),nth_in (show k < ys.length by omega)]
theorem U_splitG (xs:List Nat) {k:Nat} (h:k<=xs.length):U xs = U (xs.drop k) * 4294967296 ^ k + U (xs.take k):=by
 conv => lhs; rw [<- List.take_append_drop k xs]
 rw [U_append,List.length_take,Nat.min_eq_left h,Nat.mul_comm,Nat.add_comm]
structure Firsts (ps ys:List Nat) (k first second third top:Nat):Prop where
 hv:U ys = (first * 4294967296 + second) * 4294967296 ^ k + U (ys.take k)
 hv':U (ys.take k) < 4294967296 ^ k
 hu:U ps = (top * 4294967296 + third) * 4294967296 ^ k + U (ps.take k)
 hu':U (ps.take k) < 4294967296 ^ k
 ht:top < (first + 1) * 4294967296
theorem firsts_of {ps ys:List Nat} {k:Nat} (hp:ps.length = k + 3) (hy:ys.length = k + 2) (hdp:Dg ps) (hdy:Dg ys) (hlt:U ps < U ys * 4294967296) :
  Firsts ps ys k (nth ys (k + 1)) (nth ys k) (nth ps k) (nth ps (k + 2) * 4294967296 + nth ps (k + 1)):=by
 have h1:=U_splitG ys (k:=k) (by omega);have h2:=U_splitG ps (k:=k) (by omega);have t1:=U_lt (hdy.take k);have t2:=U_lt (hdp.take k);rw [List.length_take,Nat.min_eq_left (by omega)] at t1 t2;rw [drop_two hy] at h1;rw [drop_three hp] at h2;have e1:U [nth ys k,nth ys (k + 1)] = nth ys (k + 1) * 4294967296 + nth ys k:=by simp only [U]; omega
 have e2:U [nth ps k,nth ps (k + 1),nth ps (k + 2)] = (nth ps (k + 2) * 4294967296 + nth ps (k + 1)) * 4294967296 + nth ps k:=by simp only [U]; omega
 rw [e1] at h1;rw [e2] at h2;have hs:=hdy.nth k;obtain ⟨f,hf⟩:=exq (nth ys (k + 1));obtain ⟨s,hs2⟩:=exq (nth ys k);obtain ⟨top,htop⟩:=exq (nth ps (k + 2) * 4294967296 + nth ps (k + 1));obtain ⟨th,hth⟩:=exq (nth ps k);rw [hf,hs2] at h1;rw [htop,hth] at h2;rw [hs2] at hs;rw [hf,hs2,htop,hth];clear e1 e2 hf hs2 htop hth;refine ⟨h1,t1,h2,t2,?_⟩
 obtain ⟨E,hE⟩:=exq (4294967296 ^ k);rw [hE] at h1 h2 t1 t2;clear hE
 have h3:(top * 4294967296) * E < ((f + 1) * 4294967296 * 4294967296) * E:=by
  have a1:(top * 4294967296) * E<=(top * 4294967296 + th) * E:=Nat.mul_le_mul_right _ (by omega)
  have a2:U ys < ((f + 1) * 4294967296) * E:=by
   have a3:(f * 4294967296 + s + 1) * E<=((f + 1) * 4294967296) * E:=Nat.mul_le_mul_right _ (by omega);rw [Nat.add_mul _ 1 E,Nat.one_mul] at a3;omega
  have a4:U ys * 4294967296 < ((f + 1) * 4294967296) * E * 4294967296:=Nat.mul_lt_mul_of_pos_right a2 (by omega);have a5:((f + 1) * 4294967296) * E * 4294967296 = ((f + 1) * 4294967296 * 4294967296) * E:=by rw [Nat.mul_right_comm]
  omega
 have h4:=Nat.lt_of_mul_lt_mul_right h3;omega
theorem guess_start {first second third top q0 r0 Q3:Nat} (hQ3:(top * 4294967296 + third) / (first * 4294967296 + second) = Q3) (hq:q0 * first + r0 = top) (hr:r0 < first) (ht:third < 4294967296):Q3<=q0\/4294967295<=q0:=by
 left;rw [<- hQ3]
 have h1:top * 4294967296 + third < (q0 + 1) * (first * 4294967296 + second):=by
  have h2:(q0 + 1) * (first * 4294967296)<=(q0 + 1) * (first * 4294967296 + second):=Nat.mul_le_mul_left _ (by omega);have h3:(q0 + 1) * (first * 4294967296) = (q0 * first + first) * 4294967296:=by rw [<- Nat.mul_assoc,Nat.add_mul,Nat.one_mul]
  omega
 have:=(Nat.div_lt_iff_lt_mul (show 0 < first * 4294967296 + second by omega)).2 h1;omega
theorem guess_end {ps ys:List Nat} {k first second third top digit Q3 Q:Nat} (hF:Firsts ps ys k first second third top) (h1:2147483648<=first) (hlt:U ps < U ys * 4294967296) (hQ:U ps / U ys = Q)
  (hQ3:(top * 4294967296 + third) / (first * 4294967296 + second) = Q3) (hM:Q3<=digit\/4294967295<=digit) (hd:digit < 4294967296) (hle:digit * (first * 4294967296 + second)<=top * 4294967296 + third):Q<=digit/\digit<=Q + 1:=by
 have hvp:0 < U ys:=by
  rcases Nat.eq_zero_or_pos (U ys) with h | h
  · rw [h] at hlt; omega
  · exact h
 have q1:Q * U ys<=U ps:=by rw [<- hQ]; exact Nat.div_mul_le_self _ _
 have q2:U ps < (Q + 1) * U ys:=by
  have:=Nat.div_add_mod (U ps) (U ys);have h3:=Nat.mod_lt (U ps) hvp;rw [hQ,Nat.mul_comm] at this;rw [Nat.add_mul,Nat.one_mul];omega
 refine guess_near (B:=4294967296) hF.hu hF.hu' hF.hv hF.hv' (by omega) hle (by omega) q1 q2 ?_;rcases hM with h | h
 ·
  left;have hV:0 < first * 4294967296 + second:=by omega
  have h4:=Nat.div_add_mod (top * 4294967296 + third) (first * 4294967296 + second);have h5:=Nat.mod_lt (top * 4294967296 + third) hV;rw [hQ3] at h4;have h6:(first * 4294967296 + second) * Q3<=(first * 4294967296 + second) * digit:=Nat.mul_le_mul_left _ h;rw [Nat.add_mul,Nat.one_mul,Nat.mul_comm digit];omega
 ·
  right;have h7:Q * U ys < 4294967296 * U ys:=by rw [Nat.mul_comm 4294967296]; omega
  have:=Nat.lt_of_mul_lt_mul_right h7;omega
theorem guess_down {first second third top digit rest Q3:Nat} (hq:top = digit * first + rest) (hQ3:(top * 4294967296 + third) / (first * 4294967296 + second) = Q3)
  (hgo:4294967295 < digit\/rest * 4294967296 + third < digit * second):0 < digit/\(Q3<=digit - 1\/4294967295<=digit - 1):=by
 have h0:0 < digit:=by
  rcases Nat.eq_zero_or_pos digit with h | h
  · subst h; omega
  · exact h
 refine ⟨h0,?_⟩;rcases hgo with h | h
 · right; omega
 ·
  left;have h2:¬ digit * (first * 4294967296 + second)<=top * 4294967296 + third:=fun hc => by have:=(guess_test hq).2 hc; omega
  have h3:Q3 * (first * 4294967296 + second)<=top * 4294967296 + third:=by rw [<- hQ3]; exact Nat.div_mul_le_self _ _
  rcases Nat.lt_or_ge Q3 digit with h4 | h4
  · omega
  · exact absurd (Nat.le_trans (Nat.mul_le_mul_right _ h4) h3) h2
theorem guess_any (A1 A2:Option Addr) (ps ys:List Nat) (k n n1 c1 c2:Nat) (w:World) (hn:n = k + 2) (hn1:n1 = k + 3) (hp:ps.length = n1) (hy:ys.length = n) (hdp:Dg ps) (hdy:Dg ys) (hr1:Ra w w.heap.size A1 ps) (hr2:Ra w w.heap.size A2 ys)
  (hk:k<=100000) (hf:2147483648<=nth ys (k + 1)) (hlt:U ps < U ys * 4294967296) :
  Calls Tryz.prog 143 #[.slice A1 n1 c1,.slice A2 n c2] w fun e w' => ∃ d:Nat,e = .returned (.int .u64 (d:Int))/\d < 4294967296/\U ps / U ys<=d/\d<=U ps / U ys + 1/\Below w.heap.size w w':=by
 subst hn hn1;have HF:=qz (firsts_of hp hy hdp hdy hlt);obtain ⟨b1,o1,hA1,_,cp0⟩:=hr1.at_ (k:=k + 2) (by omega);obtain ⟨_,_,hA1',_,cp1⟩:=hr1.at_ (k:=k + 1) (by omega);obtain ⟨_,_,hA1'',_,cp2⟩:=hr1.at_ (k:=k) (by omega);obtain ⟨b2,o2,hA2,_,cy1⟩:=hr2.at_ (k:=k + 1) (by omega);obtain ⟨_,_,hA2',_,cy0⟩:=hr2.at_ (k:=k) (by omega);subst hA1 hA2
 simp only [Option.some.injEq,Addr.mk.injEq,and_true] at hA1' hA1'' hA2';obtain ⟨rfl,rfl⟩:=hA1';obtain ⟨rfl,rfl⟩:=hA1'';obtain ⟨rfl,rfl⟩:=hA2';have hfb:=hdy.nth (k + 1);have hsb:=hdy.nth k;have ht0:=hdp.nth (k + 2);have ht1:=hdp.nth (k + 1);have ht2:=hdp.nth k;obtain ⟨Q,hQ⟩:=exq (U ps / U ys);obtain ⟨first,hfirst⟩:=exq (nth ys (k + 1))
 obtain ⟨second,hsecond⟩:=exq (nth ys k);obtain ⟨third,hthird⟩:=exq (nth ps k);obtain ⟨p0,hp0⟩:=exq (nth ps (k + 2));obtain ⟨p1,hp1⟩:=exq (nth ps (k + 1));rw [hfirst,hsecond,hthird,hp0,hp1] at HF;rw [hfirst] at cy1 hf hfb;rw [hsecond] at cy0 hsb;rw [hthird] at cp2 ht2;rw [hp0] at cp0 ht0;rw [hp1] at cp1 ht1;rw [hQ]
 have hor:bits .or .u64 ((p0:Int) * 4294967296) (p1:Int) = ((p0 * 4294967296 + p1:Nat):Int):=by
  have:=or_low32 p0 p1 ht0 ht1
  rwa [show ((p0 * 4294967296:Nat):Int) = (p0:Int) * 4294967296 by omega] at this
 obtain ⟨top,htop⟩:=exq (p0 * 4294967296 + p1);have htb:top < 18446744073709551616:=by omega
 rw [htop] at hor HF;obtain ⟨q0,hq0⟩:=exq (top / first);obtain ⟨r0,hr0⟩:=exq (top % first);have hdm:=Nat.div_add_mod top first
 have hml:=Nat.mod_lt top (show 0 < first by omega);rw [hq0,hr0,Nat.mul_comm] at hdm;rw [hr0] at hml;have hq0b:q0<=top:=by rw [<- hq0]; exact Nat.div_le_self _ _
 have ed:(top:Int).tdiv (first:Int) = (q0:Int):=by rw [Int.tdiv_eq_ediv_of_nonneg (by omega),<- hq0]; rfl
 have em:(top:Int).tmod (first:Int) = (r0:Int):=by rw [Int.tmod_eq_emod_of_nonneg (by omega),<- hr0]; rfl
 have f0:¬ (first:Int) = 0:=by omega
 have fb:((first:Int) == 0) = false:=by simp; omega
 have w1:IntKind.u64.wrap (first:Int) = first:=IntWalk.u64_in _ (by omega)
 have w2:IntKind.u64.wrap (second:Int) = second:=IntWalk.u64_in _ (by omega);have w3:IntKind.u64.wrap (p0:Int) = p0:=IntWalk.u64_in _ (by omega);have w4:IntKind.u64.wrap (p1:Int) = p1:=IntWalk.u64_in _ (by omega);have w5:IntKind.u64.wrap ((p0:Int) * 4294967296) = (p0:Int) * 4294967296:=IntWalk.u64_in _ (by omega)
 have w6:IntKind.u64.wrap (q0:Int) = q0:=IntWalk.u64_in _ (by omega);have w7:IntKind.u64.wrap (r0:Int) = r0:=IntWalk.u64_in _ (by omega);obtain ⟨Q3,hQ3⟩:=exq ((top * 4294967296 + third) / (first * 4294967296 + second));have HST:Hid (Q3<=q0\/4294967295<=q0):=qz (guess_start hQ3 hdm hml ht2);have HQ:=qz hQ;have HQ3:=qz hQ3;have HLT:=qz hlt;have HDM:=qz hdm
 clear hfirst hsecond hthird hp0 hp1 htop hq0 hr0 hQ hQ3 hlt hdm hr1 hr2 hdp hdy;go_enter Tryz.func143,Tryz.ntmps143;go_wp2_with fail
 go_quiet (fail)
 go_wp2_with fail
 go_quiet (fail)
 go_wp2_with fail
 go_quiet (fail)
 go_wp2_with fail;go_loopw [9,10] (fun dv rv wr => ∃ digit rest:Nat,dv = .int .u64 (digit:Int)/\rv = .int .u64 (rest:Int)/\digit * first + rest = top/\(Q3<=digit\/4294967295<=digit)/\Below w.heap.size w wr) (fun dv _ _ => (intOf dv).toNat)
 case atStart => exact ⟨q0,r0,rfl,rfl,HDM.out,HST.out,((below_drewN _).trans ((below_drewN _).mono (Nat.le_refl _))).trans ((below_drewN _).mono (Nat.le_refl _))⟩
 case round =>
  obtain ⟨digit,rest,rfl,rfl,hq,hM,hB⟩:=hrel;have c2:wr.cell? ⟨b1,o1 + k,none⟩ = some (.int .u32 (third:Int)):=(hB.cell (World.block_lt_of_cell? w _ cp2)).trans cp2
  have hdt:digit<=top:=by
   have:digit * 1<=digit * first:=Nat.mul_le_mul_left _ (by omega)
   omega
  by_cases hr:rest<=4294967295
  ·
   by_cases hdg:4294967295 < digit
   ·
    obtain ⟨h0,hM2⟩:=guess_down (third:=third) (second:=second) hq.symm HQ3.out (.inl hdg);obtain ⟨d,rfl⟩:∃ d,digit = d + 1:=⟨digit - 1,by omega⟩
    rw [Nat.add_sub_cancel] at hM2;have hbk:=qz (guess_back hq.symm).symm;have wd1:IntKind.u64.wrap (d:Int) = (d:Int):=IntWalk.u64_in _ (by omega);have wr1:IntKind.u64.wrap ((rest:Int) + (first:Int)) = (rest:Int) + (first:Int):=IntWalk.u64_in _ (by omega);have HM2:=qz hM2;have hrb:decide ((rest:Int)<=4294967295) = true:=decide_eq_true (by omega)
    have hdb:decide ((4294967295:Int) < (d:Int) + 1) = true:=decide_eq_true (by omega);clear hM hM2 hq hr hdg hdt h0;go_wp2_with fail;go_roundw
    case rel => exact ⟨d,rest + first,by go_num,by go_num,hbk.out,HM2.out,hB⟩
    case measure => simp [intOf]
   have hpn:digit * second<=18446744065119617025:=mul_prod32 (by omega) hsb;obtain ⟨T,hT⟩:=exq (rest * 4294967296 + third)
   have hor2:bits .or .u64 ((rest:Int) * 4294967296) (third:Int) = (T:Int):=by
    have:=or_low32 rest third (by omega) ht2;rw [hT] at this
    rwa [show ((rest * 4294967296:Nat):Int) = (rest:Int) * 4294967296 by omega] at this
   have wr2:IntKind.u64.wrap ((rest:Int) * 4294967296) = (rest:Int) * 4294967296:=IntWalk.u64_in _ (by omega);have wt:IntKind.u64.wrap (third:Int) = third:=IntWalk.u64_in _ (by omega);obtain ⟨pr,hpr⟩:=exq (digit * second)
   have wp:IntKind.u64.wrap ((digit:Int) * (second:Int)) = (pr:Int):=by
    rw [show (digit:Int) * (second:Int) = ((digit * second:Nat):Int) by simp,hpr];exact IntWalk.u64_in _ (by omega)
   by_cases htest:T < pr
   ·
    have hti:(T:Int) < (pr:Int):=by omega
    obtain ⟨h0,hM2⟩:=guess_down (third:=third) (second:=second) hq.symm HQ3.out (.inr (by rw [hT,hpr]; exact htest));obtain ⟨d,rfl⟩:∃ d,digit = d + 1:=⟨digit - 1,by omega⟩
    rw [Nat.add_sub_cancel] at hM2;have hbk:=qz (guess_back hq.symm).symm;have wd1:IntKind.u64.wrap (d:Int) = (d:Int):=IntWalk.u64_in _ (by omega);have wr1:IntKind.u64.wrap ((rest:Int) + (first:Int)) = (rest:Int) + (first:Int):=IntWalk.u64_in _ (by omega);have HM2:=qz hM2;have hrb:decide ((rest:Int)<=4294967295) = true:=decide_eq_true (by omega)
    have hdb:decide ((4294967295:Int) < (d:Int) + 1) = false:=decide_eq_false (by omega);have htb:decide ((T:Int) < (pr:Int)) = true:=decide_eq_true hti
    have wp2:IntKind.u64.wrap (((d:Int) + 1) * (second:Int)) = (pr:Int):=by
     rw [<- wp]; congr 1
    clear hM hM2 hq hT hpr hpn hr hdg hdt h0 hti htb;go_wp2_with fail;go_roundw
    case rel => exact ⟨d,rest + first,by go_num,by go_num,hbk.out,HM2.out,hB⟩
    case measure => simp [intOf]
   ·
    have hti:¬ (T:Int) < (pr:Int):=by omega
    have hend:=qz (guess_end HF.out hf HLT.out HQ.out HQ3.out hM (by omega) ((guess_test hq.symm).1 (by rw [hT,hpr]; omega)));clear hM hq hT hpr hpn;go_wp2_with fail;go_ret;exact ⟨digit,rfl,by omega,hend.out.1,hend.out.2,hB⟩
  ·
   obtain ⟨e1,e2⟩:=guess_rest (third:=third) hq.symm HF.out.ht (by omega) hsb;have hend:=qz (guess_end HF.out hf HLT.out HQ.out HQ3.out hM e1 e2);clear hM hq e2;go_wp2_with fail;go_ret;exact ⟨digit,rfl,e1,hend.out.1,hend.out.2,hB⟩
end
section
def LD (A v n2 m i:Nat) (zs qs:List Nat):Prop :=
 zs.length = m + n2/\Dg zs/\qs.length = m/\Dg qs/\U zs + U (qs.drop i) * v * 4294967296 ^ i = A/\U (zs.drop i) < v
theorem U_nils (xs:List Nat) (k:Nat) (h:xs.length<=k):U (xs.drop k) = 0:=by rw [List.drop_eq_nil_of_le h]; rfl
theorem LD.part {A v n2 m i:Nat} {zs qs:List Nat} (h:LD A v n2 m (i + 1) zs qs) (hi:i < m) (hv:v < 4294967296 ^ n2) :
  ((
   zs.drop i).take (n2 + 1)).length = n2 + 1/\Dg ((zs.drop i).take (n2 + 1))/\U ((zs.drop i).take (n2 + 1)) < v * 4294967296 /\
   zs.take i ++ (zs.drop i).take (n2 + 1) ++ zs.drop (i + n2 + 1) = zs/\U (zs.drop (i + n2 + 1)) = 0:=by
 obtain ⟨hl,hd,_,_,_,hlt⟩:=h;have hlen:((zs.drop i).take (n2 + 1)).length = n2 + 1:=by simp; omega
 have e1:zs.drop i = (zs.drop i).take (n2 + 1) ++ zs.drop (i + n2 + 1):=by
  conv => lhs; rw [<- List.take_append_drop (n2 + 1) (zs.drop i)]
  rw [List.drop_drop,Nat.add_assoc]
 have e2:U (zs.drop i) = U ((zs.drop i).take (n2 + 1)) + 4294967296 ^ (n2 + 1) * U (zs.drop (i + n2 + 1)):=by
  conv => lhs; rw [e1]
  rw [U_append,hlen]
 have e3:=U_drop zs i;have hdi:=hd.nth i;have h4:U (zs.drop i) < v * 4294967296:=by omega
 have h5:U (zs.drop (i + n2 + 1)) = 0:=by
  rcases Nat.eq_zero_or_pos (U (zs.drop (i + n2 + 1))) with h | h
  · exact h
  ·
   have h6:4294967296 ^ (n2 + 1) * 1<=4294967296 ^ (n2 + 1) * U (zs.drop (i + n2 + 1)):=Nat.mul_le_mul_left _ h;rw [Nat.pow_succ] at h6 e2;omega
 refine ⟨hlen,(hd.drop i).take _,by rw [h5] at e2; omega,?_,h5⟩;rw [List.append_assoc,<- e1,List.take_append_drop]
theorem LD.step {A v n2 m i Q:Nat} {zs qs ns:List Nat} (h:LD A v n2 m (i + 1) zs qs) (hi:i < m) (hv:v < 4294967296 ^ n2) (hn:ns.length = n2 + 1) (hd:Dg ns) (hQ:Q < 4294967296)
  (hU:U ns + Q * v = U ((zs.drop i).take (n2 + 1))) (hlt:U ns < v):LD A v n2 m i (zs.take i ++ ns ++ zs.drop (i + n2 + 1)) (qs.set i Q):=by
 obtain ⟨_,_,_,hz,h0⟩:=h.part hi hv;obtain ⟨hl,hdz,hql,hqd,hA,_⟩:=h;have ht:(zs.take i).length = i:=by simp; omega
 have hln:(zs.take i ++ ns).length = i + (n2 + 1):=by rw [List.length_append,ht,hn]
 have hlp:(zs.take i ++ (zs.drop i).take (n2 + 1)).length = i + (n2 + 1):=by simp; omega
 have u1:U (zs.take i ++ ns ++ zs.drop (i + n2 + 1)) = U (zs.take i) + 4294967296 ^ i * U ns:=by
  rw [U_append,U_append,ht,h0]; omega
 have u2:U zs = U (zs.take i) + 4294967296 ^ i * U ((zs.drop i).take (n2 + 1)):=by
  conv => lhs; rw [<- hz]
  rw [U_append,U_append,ht,h0]; omega
 have u3:U ((qs.set i Q).drop i) = Q + 4294967296 * U (qs.drop (i + 1)):=by
  rw [U_drop,nth_set32 (by omega),if_pos rfl,nth_drop_ext (a:=qs.set i Q) (b:=qs) (k:=i + 1) (by simp) (fun j hj => by rw [nth_set32 (by omega),if_neg (by omega)])]
 refine ⟨by simp; omega,?_,by simp [hql],hqd.set hQ,?_,?_⟩
 ·
  intro d hd';rcases List.mem_append.1 hd' with h1 | h1
  ·
   rcases List.mem_append.1 h1 with h2 | h2
   · exact hdz.take _ d h2
   · exact hd d h2
  · exact hdz.drop _ d h1
 ·
  rw [u1,u3,<- hA,u2,<- hU,Nat.pow_succ];generalize 4294967296 ^ i = P;generalize U (qs.drop (i + 1)) = q;generalize U ns = a;generalize U (zs.take i) = b
  grind
 ·
  have e:(zs.take i ++ ns ++ zs.drop (i + n2 + 1)).drop i = ns ++ zs.drop (i + n2 + 1):=by
   rw [List.append_assoc];exact List.drop_left' ht
  rw [e,U_append,h0];omega
theorem LD.done {A v n2 m:Nat} {zs qs:List Nat} (h:LD A v n2 m 0 zs qs):U qs = A / v/\U zs = A % v:=by
 obtain ⟨_,_,_,_,hA,hlt⟩:=h;simp only [List.drop_zero,Nat.pow_zero,Nat.mul_one] at hA hlt;subst hA;have hv:0 < v:=by omega
 rw [Nat.add_mul_div_right _ _ hv,Nat.div_eq_of_lt hlt,Nat.add_mul_mod_self_right,Nat.mod_eq_of_lt hlt];omega
theorem LD.start {X Y S n1 n2 m:Nat} {zs:List Nat} (hl:zs.length = m + n2) (hn:n1 + 1 = m + n2) (hn2:0 < n2) (hd:Dg zs) (hX:X < 4294967296 ^ n1) (hY:4294967296 ^ (n2 - 1)<=Y) (hS:0 < S) (hU:U zs = X * S) :
  LD (X * S) (Y * S) n2 m m zs (List.replicate m 0):=by
 refine ⟨hl,hd,by simp,zeros_dg m,by rw [U_nils _ _ (by simp),Nat.zero_mul,Nat.zero_mul,hU,Nat.add_zero],?_⟩;have e:=U_split zs m (by omega);have hp:(4294967296:Nat) ^ n1 = 4294967296 ^ m * 4294967296 ^ (n2 - 1):=by rw [<- Nat.pow_add]; congr 1; omega
 have h1:X * S < 4294967296 ^ m * (4294967296 ^ (n2 - 1) * S):=by rw [<- Nat.mul_assoc,<- hp]; exact Nat.mul_lt_mul_of_pos_right hX hS
 have h2:4294967296 ^ m * U (zs.drop m) < 4294967296 ^ m * (4294967296 ^ (n2 - 1) * S):=by omega
 have h3:=Nat.lt_of_mul_lt_mul_left h2;exact Nat.lt_of_lt_of_le h3 (Nat.mul_le_mul_right _ hY)
theorem lead_top {x l:Nat} (hx:x < 4294967296) (h0:x≠0) (hl:Lib.bitLen x = l):1<=l/\l<=32/\2 ^ (l - 1)<=x/\x < 2 ^ l:=by
 obtain ⟨h1,h2,h3⟩:=Lib.bitLenAux_bounds 64 x (Nat.lt_trans hx (by decide)) h0;have e:Lib.bitLenAux 64 x = Lib.bitLen x:=rfl;rw [e,hl] at h1 h2 h3;have h4:=Lib.bitLen_le x 32 (by omega) (Nat.lt_of_lt_of_le hx (by decide));rw [hl] at h4;exact ⟨h1,h4,h2,h3⟩
theorem norm_div {ys ds:List Nat} {k s:Nat} (hy:Dg ys) (h0:nth ys (k + 1)≠0) (hl:ys.length = k + 2) (hdl:ds.length = k + 3) (hdd:Dg ds) (hs:Lib.bitLen (nth ys (k + 1)) + s = 32) (hU:U ds = U ys * 2 ^ s) :
  U (ds.take (k + 2)) = U ys * 2 ^ s/\2147483648<=nth ds (k + 1)/\U ys * 2 ^ s < 4294967296 ^ (k + 2):=by
 obtain ⟨l,hll⟩:=exq (Lib.bitLen (nth ys (k + 1)));obtain ⟨l1,l2,l3,l4⟩:=lead_top (hy.nth (k + 1)) h0 hll;rw [hll] at hs;have eY:=U_take_succ ys (k + 1);rw [U_take_all ys _ (by omega)] at eY;have hY1:=U_lt (hy.take (k + 1));rw [show (ys.take (k + 1)).length = k + 1 by simp; omega] at hY1;obtain ⟨x,hx⟩:=exq (nth ys (k + 1));rw [hx] at eY l3 l4
 obtain ⟨E,hE⟩:=exq (4294967296 ^ (k + 1));have hEp:0 < E:=by rw [<- hE]; exact Nat.pow_pos (by omega)
 have hE2:4294967296 ^ (k + 2) = E * 4294967296:=by rw [<- hE,<- Nat.pow_succ]
 have p32:(2:Nat) ^ l * 2 ^ s = 4294967296:=by rw [<- Nat.pow_add,hs]
 have p31:(2:Nat) ^ (l - 1) * 2 ^ s = 2147483648:=by rw [<- Nat.pow_add,show l - 1 + s = 31 by omega]
 obtain ⟨S,hS⟩:=exq (2 ^ s);have hSp:0 < S:=by rw [<- hS]; exact Nat.pow_pos (by omega)
 rw [hS] at p32 p31 hU ⊢;rw [hE] at eY hY1
 have hup:U ys * S < E * 4294967296:=by
  have a1:U ys < E * (x + 1):=by rw [Nat.mul_add]; omega
  have a2:E * (x + 1)<=E * 2 ^ l:=Nat.mul_le_mul_left _ l4;have a3:U ys * S < E * 2 ^ l * S:=Nat.mul_lt_mul_of_pos_right (by omega) hSp
  rwa [Nat.mul_assoc,p32] at a3
 have hlo:E * 2147483648<=U ys * S:=by
  have a1:E * 2 ^ (l - 1)<=E * x:=Nat.mul_le_mul_left _ l3;have a2:E * 2 ^ (l - 1) * S<=U ys * S:=Nat.mul_le_mul_right _ (by omega)
  rwa [Nat.mul_assoc,p31] at a2
 have eD:=U_take_succ ds (k + 2);rw [U_take_all ds _ (by omega),hE2] at eD
 have hz:nth ds (k + 2) = 0:=by
  rcases Nat.eq_zero_or_pos (nth ds (k + 2)) with h | h
  · exact h
  ·
   have:E * 4294967296 * 1<=E * 4294967296 * nth ds (k + 2):=Nat.mul_le_mul_left _ h;omega
 rw [hz,Nat.mul_zero,Nat.add_zero] at eD;have eD2:=U_take_succ ds (k + 1);have hD1:=U_lt (hdd.take (k + 1));rw [show (ds.take (k + 1)).length = k + 1 by simp; omega] at hD1;rw [hE] at eD2 hD1;refine ⟨by rw [<- eD,hU],?_,by rw [hE2]; exact hup⟩;rcases Nat.lt_or_ge (nth ds (k + 1)) 2147483648 with h | h
 ·
  have a1:E * (nth ds (k + 1) + 1)<=E * 2147483648:=Nat.mul_le_mul_left _ h;rw [Nat.mul_add] at a1;have e3:k + 1 + 1 = k + 2:=rfl;rw [e3] at eD2;omega
 · exact h
end
section
open Go.RowKit Go.Shelf
set_option maxRecDepth 100000
attribute [local go_sem] Oper.semAt_some
theorem down_digit {x y Y S C:Nat} (hSC:S * C = 4294967296) (hx:x < 4294967296) (hy:Y % 4294967296 = y):(x + 4294967296 * Y) / S = (y * 4294967296 + x) / S % 4294967296 + 4294967296 * (Y / S):=by
 have hS:0 < S:=by
  rcases Nat.eq_zero_or_pos S with h | h
  · subst h; omega
  · exact h
 have ha:x / S < C:=by rw [Nat.div_lt_iff_lt_mul hS,Nat.mul_comm,hSC]; exact hx
 have hr:=Nat.mod_lt Y hS;have e0:y % S = Y % S:=by rw [<- hy,<- hSC,Nat.mod_mul_right_mod]
 have dY:=Nat.div_add_mod Y S;have dy:=Nat.div_add_mod y S;rw [e0] at dy;rw [<- hSC];have e1:(x + S * C * Y) / S = x / S + C * Y:=by rw [Nat.mul_assoc,Nat.add_mul_div_left _ _ hS]
 have e2:(y * (S * C) + x) / S = x / S + y * C:=by rw [Nat.add_comm,show y * (S * C) = S * (y * C) by grind,Nat.add_mul_div_left _ _ hS]
 rw [e1,e2];generalize x / S = a at *
 generalize Y / S = Q at *
 generalize Y % S = r at *
 generalize y / S = q at *
 have e3:a + y * C = S * C * q + (r * C + a):=by rw [<- dy]; grind
 have h4:r * C + a < S * C:=by
  have:(r + 1) * C<=S * C:=Nat.mul_le_mul_right _ hr;rw [Nat.add_mul] at this;omega
 rw [e3,Nat.mul_add_mod,Nat.mod_eq_of_lt h4,<- dY]
 grind
def ShD (xs zs:List Nat) (n s k ab:Nat):Prop :=
 zs.length = n/\Dg zs/\(∀ j,j < n - k->nth zs j = nth xs j)/\U (zs.drop (n - k)) = U (xs.drop (n - k)) / 2 ^ s/\ab < 18446744073709551616/\ab % 4294967296 = nth xs (n - k)
theorem ShD.step {xs zs:List Nat} {n s k ab p y T z:Nat} (h:ShD xs zs n s k ab) (hk:k < n) (hp:n - 1 - k = p) (hs:s<=31) (hx:Dg xs) (hy:ab % 4294967296 = y) (hT:y * 4294967296 + nth xs p = T) (hz:T / 2 ^ s % 4294967296 = z) :
  ShD xs (zs.set p z) n s (k + 1) T:=by
 obtain ⟨h1,h2,h3,h4,h5,h6⟩:=h;have e1:n - (k + 1) = p:=by omega
 have e2:n - k = p + 1:=by omega
 rw [e2] at h3 h4 h6;rw [ShD,e1];have hxp:=hx.nth p;have hyb:y < 4294967296:=by omega
 have hzb:z < 4294967296:=by omega
 refine ⟨by simp [h1],h2.set hzb,fun j hj => by rw [nth_set32 (by omega),if_neg (by omega)]; exact h3 j (by omega),?_,by omega,by omega⟩;have hdz:=U_drop (zs.set p z) p;rw [nth_set32 (by omega),if_pos rfl,nth_drop_ext (a:=zs.set p z) (b:=zs) (k:=p + 1) (by simp) (fun j hj => by rw [nth_set32 (by omega),if_neg (by omega)]),h4] at hdz;have hdx:=U_drop xs p
 have hdx1:=U_drop xs (p + 1);have hx1:=hx.nth (p + 1);have hy2:U (xs.drop (p + 1)) % 4294967296 = y:=by omega
 have hSC:2 ^ s * 2 ^ (32 - s) = 4294967296:=by rw [<- Nat.pow_add,show s + (32 - s) = 32 by omega]
 rw [hdz,hdx,down_digit hSC hxp hy2,hT,hz]
def ShiftedDown (w:World) (g:Nat) (L:List Value) (xs:List Nat) (R:List Value) (n s:Nat) (e:Ending) (w':World):Prop :=
 ∃ zs,e = .returned (.tuple #[])/\zs.length = n/\Dg zs/\U zs = U xs / 2 ^ s/\Win w' g 86 L zs R/\w.grownBy w' (some g)
structure SMem (w:World) (g o n c s:Nat) (L R:List Value) (xs:List Nat) (k:Nat) (W:World):Prop where
 one:Blk W w.heap.size 44 #[.slice (some ⟨g,o,none⟩) n c]
 two:Blk W (w.heap.size + 1) 3 #[.int .i64 (s:Int)]
 rest:∃ ab zs,ShD xs zs n s k ab/\Blk W (w.heap.size + 2) 38 #[.int .u64 (ab:Int)]/\Win W g 86 L zs R
 wrote:w.grownBy W (some g)
theorem SMem.kept {w:World} {g o n c s:Nat} {L R:List Value} {xs:List Nat} {k:Nat} {X Y:World} {row:Option Nat} (h:SMem w g o n c s L R xs k X) (hg:X.grownBy Y row) {B:Nat} (hB:w.heap.size<=B)
  (hr:∀ r,row = some r->B<=r/\∃ o:Obj,X.heap[r]? = some o/\o.isCells = false):SMem w g o n c s L R xs k Y:=by
 obtain ⟨ab,zs,h1,h2,h3⟩:=h.rest;have hr2:∀ r,row = some r->∃ o:Obj,X.heap[r]? = some o/\o.isCells = false:=fun r e => (hr r e).2
 exact ⟨h.one.kept hg hr2,h.two.kept hg hr2,⟨ab,zs,h1,h2.kept hg hr2,h3.kept hg hr2⟩,wrote_more h.wrote hg (fun r e => by have:=(hr r e).1; omega)⟩
theorem shiftDown_any (g o:Nat) (L R:List Value) (xs:List Nat) (n c s:Nat) (w:World) (hx:xs.length = n) (hL:L.length = o) (hw:Win w g 86 L xs R)
  (hd:Dg xs) (hn:n<=10000000) (hc:n<=c) (hs:s<=31) :
  Calls Tryz.prog 145 #[.slice (some ⟨g,o,none⟩) n c,.int .i64 (s:Int)] w (ShiftedDown w g L xs R n s):=by
 have HX:=qz hx;have HL:=qz hL;have hgl:=hw.lt;clear hx hL;refine calls_of_leave Tryz.func145 rfl ?_;simp only [Tryz.ntmps145,List.size_toArray,List.length_cons,List.length_nil,Nat.reduceAdd,Nat.reduceSub,Array.replicate_succ,Array.replicate_zero,List.push_toArray,List.append_toArray,List.nil_append,List.cons_append];go_wp2_with fail
 refine (backw_calls _ _ _ _).mono ?_;rintro e w' ⟨rfl,rfl⟩;obtain ⟨W0,hW0⟩:=exq (((((w.alloc (.cells #[.slice (some ⟨g,o,none⟩) n c] 44)).alloc (.cells #[.int .i64 (s:Int)] 3)).alloc (.cells #[.int .u64 0] 38)).alloc (.cells #[.slice (some ⟨g,o,none⟩) n c] 44)));have hs0:W0.heap.size = w.heap.size + 4:=by rw [<- hW0]; simp
 have hB0:Below w.heap.size w W0:=by rw [<- hW0]; exact (((((Below.refl _ w).alloc (Nat.le_refl _) _).alloc (by simp) _).alloc (by simp; omega) _).alloc (by simp; omega) _)
 have hwin0:Win W0 g 86 L xs R:=hw.below hB0 hgl;have b1:Blk W0 w.heap.size 44 #[.slice (some ⟨g,o,none⟩) n c]:=by rw [<- hW0]; exact (((Blk.new w _ _).alloc _).alloc _).alloc _
 have b2:Blk W0 (w.heap.size + 1) 3 #[.int .i64 (s:Int)]:=by
  rw [<- hW0];have:=((Blk.new (w.alloc (.cells #[.slice (some ⟨g,o,none⟩) n c] 44)) 3 #[.int .i64 (s:Int)]).alloc (.cells #[.int .u64 0] 38)).alloc (.cells #[.slice (some ⟨g,o,none⟩) n c] 44);rw [World.size_alloc] at this;exact this
 have b3:Blk W0 (w.heap.size + 2) 38 #[.int .u64 ((0:Nat):Int)]:=by
  rw [<- hW0];have:=(Blk.new ((w.alloc (.cells #[.slice (some ⟨g,o,none⟩) n c] 44)).alloc (.cells #[.int .i64 (s:Int)] 3)) 38 #[.int .u64 0]).alloc (.cells #[.slice (some ⟨g,o,none⟩) n c] 44);rw [World.size_alloc,World.size_alloc] at this;exact this
 have b4:Blk W0 (w.heap.size + 3) 44 #[.slice (some ⟨g,o,none⟩) n c]:=by
  rw [<- hW0];have:=Blk.new (((w.alloc (.cells #[.slice (some ⟨g,o,none⟩) n c] 44)).alloc (.cells #[.int .i64 (s:Int)] 3)).alloc (.cells #[.int .u64 0] 38)) 44 #[.slice (some ⟨g,o,none⟩) n c];rw [World.size_alloc,World.size_alloc,World.size_alloc] at this;exact this
 have hI0:SMem w g o n c s L R xs 0 W0:=⟨b1,b2,⟨0,xs,⟨HX.out,hd,fun _ _ => rfl,by rw [Nat.sub_zero,List.drop_eq_nil_of_le (by rw [HX.out]; omega)]; simp [U],by omega,by rw [Nat.sub_zero,nth_out (by rw [HX.out]; omega)]⟩,b3,hwin0⟩,below_then hB0 (World.grownBy.refl _ _)⟩
 have hrA:=hwin0.reads HL.out;have hgo:=backw_goes Fence.wide 4 trivial rfl (by omega) (w.heap.size + 3) (some ⟨g,o,none⟩) xs n c W0 HX.out hrA hn hc (b4.cell 0);have HI0:=qz hI0;clear b1 b2 b3 b4 hI0 hwin0;go_wp2_with fail;clear hW0;refine (wpIn_wide (n:=5)).1 ?_
 refine wpIn_rangeFunc_goes rfl (by omega) (gf:=84) (lb:=#[.pointer (some ⟨w.heap.size + 3,0,none⟩)]) rfl trivial (enters_of Tryz.func84 (by kernel_rfl) rfl)
  hgo (bkeep_lt HX.out hrA (by omega)) (Below.refl _ _) (fun _ => rfl)
  (fun k W => SMem w g o n c s L R xs k W) (fun _ _ _ => False)
  (fun s X Y row hs hg hr => SMem.kept hs hg (by omega) hr) (fun _ _ _ _ _ hs _ _ => hs) HI0.out ?round ?done ?stop
 case round =>
  intro l k W hk _;simp only [benc];gi_wp2;refine ⟨trivial,?_⟩;intro W hm;obtain ⟨p,hp⟩:=exq (n - 1 - k);have hpn:p < n:=by omega
  rw [hp];obtain ⟨ab,zs,hdd,hb3,hwn⟩:=hm.rest;have c1:=hm.one.cell 0;have c2:=hm.two.cell 0;have c3:=hb3.cell 0;have f3:=hb3.frozen 0;have fp:=hwn.frozen (o + p);have cp:=hwn.cell HL.out (k:=p) (by rw [hdd.1]; exact hpn);have hxp:=hd.nth p;obtain ⟨y,hy⟩:=exq (ab % 4294967296);obtain ⟨T,hT⟩:=exq (y * 4294967296 + nth xs p)
  obtain ⟨z,hz⟩:=exq (T / 2 ^ s % 4294967296);obtain ⟨q,hq⟩:=exq (T / 2 ^ s);have hyb:y < 4294967296:=by omega
  have HST:=qz (hdd.step hk hp hs hd hy hT hz);have hab:=hdd.2.2.2.2.1;have wA:IntKind.u64.wrap ((ab:Int) * 4294967296) = (y:Int) * 4294967296:=by rw [wrap_u64]; omega
  have wO:bits .or .u64 ((y:Int) * 4294967296) ((nth xs p:Nat):Int) = (T:Int):=by rw [or_hl hyb hxp,hT]
  have wX:IntKind.u64.wrap ((nth xs p:Nat):Int) = ((nth xs p:Nat):Int):=IntWalk.u64_in _ (by omega);have hTb:T < 18446744073709551616:=by omega
  have hqT:q<=T:=by rw [<- hq]; exact Nat.div_le_self _ _
  have wT:(T:Int) / 2 ^ s = (q:Int):=by rw [<- hq]; simp
  have wZ:IntKind.u32.wrap (q:Int) = (z:Int):=by rw [hq] at hz; simp [IntKind.wrap,IntKind.bits,IntKind.signed]; omega
  have HP:=qz hp;have HDD:=qz hdd;have HWN:=qz hwn;have HB3:=qz hb3;have HM:=qz hm;clear hdd hwn hb3 hm hp hy hT hz hq;have hp0:(0:Int)<=(p:Int):=by omega
  have hp1:(p:Int) < (n:Int):=by omega
  gi_wp2_with fail;obtain ⟨W1,hW1⟩:=exq (W.setCell ⟨w.heap.size + 1 + 1,0,none⟩ (.int .u64 (T:Int)));have d1:W1.cell? ⟨w.heap.size,0,none⟩ = some (.slice (some ⟨g,o,none⟩) n c):=by rw [<- hW1]; exact (World.cell?_setCell_other _ _ _ _ (by intro e; injection e; omega)).trans c1
  have d2:W1.cell? ⟨w.heap.size + 1,0,none⟩ = some (.int .i64 (s:Int)):=by rw [<- hW1]; exact (World.cell?_setCell_other _ _ _ _ (by intro e; injection e; omega)).trans c2
  have d3:W1.cell? ⟨w.heap.size + 1 + 1,0,none⟩ = some (.int .u64 (T:Int)):=by rw [<- hW1]; exact World.cell?_setCell_same' _ _ _ (by rw [c3]; rfl)
  have dp:W1.cell? ⟨g,o + p,none⟩ = some (.int .u32 ((nth zs p:Nat):Int)):=by rw [<- hW1]; exact (World.cell?_setCell_other _ _ _ _ (by intro e; injection e; omega)).trans cp
  have fq:W1.frozen? ⟨g,o + p,none⟩ = false:=by rw [<- hW1,World.frozen?_setCell]; exact fp
  have HD1:Hid (Win W1 g 86 L zs R/\Blk W1 w.heap.size 44 #[.slice (some ⟨g,o,none⟩) n c]/\Blk W1 (w.heap.size + 1) 3 #[.int .i64 (s:Int)]/\Blk W1 (w.heap.size + 2) 38 #[.int .u64 (T:Int)]/\w.grownBy W1 (some g)/\KeepsOthers W W1/\Same (bkeep (w.heap.size + 3) (some ⟨g,o,none⟩) n k) W W1):=qz (by
   rw [<- hW1];refine ⟨HWN.out.far_ (by show g≠w.heap.size + 1 + 1; omega) _,HM.out.one.far (by show w.heap.size≠w.heap.size + 1 + 1; omega) _,HM.out.two.far (by show w.heap.size + 1≠w.heap.size + 1 + 1; omega) _,?_,?_,KeepsOthers.setCell _ _ _,Same.setCell' (fun a ha e => ?_) _⟩
   ·
    have:=HB3.out.set_ 0 (.int .u64 (T:Int));exact this
   · exact wrote_more HM.out.wrote (grownBy_setCell' W (w.heap.size + 2) _) (fun r e => by cases e; omega)
   ·
    rcases ha with rfl | ⟨b,o',j,hA,hj,rfl⟩
    · injection e; omega
    ·
     injection hA with hA
     injection hA with h1 h2
     injection e with e1 e2
     omega)
  rw [hW1];clear hW1 c1 c2 c3 f3 fp cp
  refine round_held (S:=fun w' => w'.cell? ⟨w.heap.size,0,none⟩ = some (.slice (some ⟨g,o,none⟩) n c)/\w'.cell? ⟨w.heap.size + 1,0,none⟩ = some (.int .i64 (s:Int))/\w'.cell? ⟨w.heap.size + 1 + 1,0,none⟩ = some (.int .u64 (T:Int))) (by kernel_rfl) (by kernel_rfl) (fun h => by obtain ⟨_,_,h⟩:=h; exact h) ⟨d1,d2,d3⟩ (fun hHeld => ?_)
  refine wpAnyH_take (i:=0) (v:=?_) rfl (by kernel_rfl) (by kernel_rfl) (by kernel_rfl) (fun _ _ _ h => h) (Or.inl ⟨by rfl,fun w hS => ?_⟩) (by assumption) ?_;rotate_left
  ·
   dsimp only at hS;go_simp
   try with_reducible rfl
  dsimp only [Act.put]
  try simp only [List.setIfInBounds_toArray,List.set_cons_zero,List.set_cons_succ]
  refine wpAnyH_take (i:=1) (v:=?_) rfl (by kernel_rfl) (by kernel_rfl) (by kernel_rfl) (fun _ _ _ h => h) (Or.inl ⟨by rfl,fun w hS => ?_⟩) (by assumption) ?_;rotate_left
  ·
   dsimp only at hS;go_simp
   try with_reducible rfl
  dsimp only [Act.put]
  try simp only [List.setIfInBounds_toArray,List.set_cons_zero,List.set_cons_succ]
  refine wpAnyH_take (i:=2) (v:=?_) rfl (by kernel_rfl) (by kernel_rfl) (by kernel_rfl) (fun _ _ _ h => h) (Or.inl ⟨by rfl,fun w hS => ?_⟩) (by assumption) ?_;rotate_left
  ·
   dsimp only at hS;go_simp
   try with_reducible rfl
  dsimp only [Act.put]
  try simp only [List.setIfInBounds_toArray,List.set_cons_zero,List.set_cons_succ]
  refine wpAnyH_take (i:=3) (v:=?_) rfl (by kernel_rfl) (by kernel_rfl) (by kernel_rfl) (fun _ _ _ h => h) (Or.inl ⟨by rfl,fun w hS => ?_⟩) (by assumption) ?_;rotate_left
  ·
   dsimp only at hS;go_simp
   try with_reducible rfl
  dsimp only [Act.put]
  try simp only [List.setIfInBounds_toArray,List.set_cons_zero,List.set_cons_succ]
  refine wpAnyH_take (i:=4) (v:=?_) rfl (by kernel_rfl) (by kernel_rfl) (by kernel_rfl) (fun _ _ _ h => h) (Or.inl ⟨by rfl,fun w hS => ?_⟩) (by assumption) ?_;rotate_left
  ·
   dsimp only at hS;go_simp
   try with_reducible rfl
  dsimp only [Act.put]
  try simp only [List.setIfInBounds_toArray,List.set_cons_zero,List.set_cons_succ]
  refine wpAnyH_take (i:=5) (v:=?_) rfl (by kernel_rfl) (by kernel_rfl) (by kernel_rfl) (fun _ _ _ h => h) (Or.inl ⟨by rfl,fun w hS => ?_⟩) (by assumption) ?_;rotate_left
  ·
   dsimp only at hS;go_simp
   try with_reducible rfl
  dsimp only [Act.put]
  try simp only [List.setIfInBounds_toArray,List.set_cons_zero,List.set_cons_succ]
  refine wpAnyH_take (i:=6) (v:=?_) rfl (by kernel_rfl) (by kernel_rfl) (by kernel_rfl) (fun _ _ _ h => h) (Or.inl ⟨by rfl,fun w hS => ?_⟩) (by assumption) ?_;rotate_left
  ·
   dsimp only at hS;go_simp
   try with_reducible rfl
  dsimp only [Act.put]
  try simp only [List.setIfInBounds_toArray,List.set_cons_zero,List.set_cons_succ]
  refine wpAnyH_ready (rs:=[7]) (by kernel_rfl) (by simp) (AllReadyH.cons rfl (fun K hK => ?_) AllReadyH.nil);go_simp
  refine hK.out _ _ ⟨(World.cell?_setCell_other _ _ _ _ (by intro e; injection e; omega)).trans d1,(World.cell?_setCell_other _ _ _ _ (by intro e; injection e; omega)).trans d2,(World.cell?_setCell_other _ _ _ _ (by intro e; injection e; omega)).trans d3⟩ (fun hHeld5 => ?_);clear hK K;refine wpAnyH_done (by kernel_rfl) ?_ _
  obtain ⟨k1,k2,k3,k4,k5,k6,k7⟩:=HD1.out;refine ⟨(k6.trans ((KeepsOthers.drew W1).trans (KeepsOthers.setCell _ _ _))).from _,k7.trans (Same.drew.trans (Same.setCell' (fun a ha e => ?_) _)),?_⟩
  ·
   rcases ha with rfl | ⟨b,o',j,hA,hj,rfl⟩
   · injection e; omega
   ·
    injection hA with hA
    injection hA with h1 h2
    injection e with _ e2
    have:=HP.out;omega
  ·
   refine ⟨Blk.far (w:=W1.drew) k2 (by show w.heap.size≠g; omega) _,Blk.far (w:=W1.drew) k3 (by show w.heap.size + 1≠g; omega) _,⟨T,zs.set p z,HST.out,Blk.far (w:=W1.drew) k4 (by show w.heap.size + 2≠g; omega) _,Win.put (w:=W1.drew) k1 HL.out (by rw [HDD.out.1]; exact hpn) rfl⟩,?_⟩
   exact wrote_set (w:=W1.drew) (wrote_more k5 (⟨rfl,rfl,rfl,Nat.le_refl _,fun _ _ _ => rfl⟩:W1.grownBy W1.drew none) (fun r e => by cases e)) _ _
 case done =>
  rintro D W hD hm hK;obtain ⟨ab,zs,⟨hzl,hzd,_,hzU,_⟩,hb3,hwn⟩:=hm.rest;rw [Nat.sub_self] at hzU;have hD2:w.heap.size<=D:=by omega
  have HZU:Hid (U zs = U xs / 2 ^ s):=qz (by simpa using hzU);have HZL:=qz hzl;have HM:=qz hm;have HWN:=qz hwn;clear hzU hzl hm hwn hb3;go_wp2_with fail;have hgD:W.grownBy (W.putObj D (.deferred none)) (some D):=grownBy_putObj' W D _
  exact leave_mark (v:=.tuple #[]) hK (by simp [results,Tryz.results145,go_sem]) ⟨zs,rfl,HZL.out,hzd,HZU.out,HWN.out.kept hgD (fun r e => by cases e; exact ⟨_,hK,rfl⟩),wrote_more HM.out.wrote hgD (fun r e => by cases e; exact hD2)⟩
 case stop =>
  rintro D c k W _ _ h _;exact h.elim
end
section
open Go.RowKit
set_option maxRecDepth 100000
def Rows (w:World) (B:Nat) (A:Option Addr) (L:List (List Nat)) (M:Nat):Prop :=
 ∀ k xs,L[k]? = some xs->∃ b o A' n' c',A = some ⟨b,o,none⟩/\b < B/\w.cell? ⟨b,o + k,none⟩ = some (.slice A' n' c')/\xs.length = n'/\n'<=c'/\Ra w B A' xs/\Dg xs/\n'<=M
theorem Rows.below {w w':World} {B M:Nat} {A:Option Addr} {L:List (List Nat)} (h:Rows w B A L M) (hb:Below B w w'):Rows w' B A L M:=fun k xs hk => by
 obtain ⟨b,o,A',n',c',h1,h2,h3,h4,h5,h6,h7,h8⟩:=h k xs hk;exact ⟨b,o,A',n',c',h1,h2,(hb.cell (p:=⟨b,o + k,none⟩) h2).trans h3,h4,h5,h6.below hb (Nat.le_refl _),h7,h8⟩
def sumU:List (List Nat)->Nat
 | [] => 0
 | xs :: r => U xs + sumU r
def prodU:List (List Nat)->Nat
 | [] => 1
 | xs :: r => U xs * prodU r
theorem sumU_snoc (L:List (List Nat)) (xs:List Nat):sumU (L ++ [xs]) = sumU L + U xs:=by
 induction L with
 | nil => simp [sumU]
 | cons y r ih => simp only [List.cons_append,sumU,ih]; omega
theorem prodU_snoc (L:List (List Nat)) (xs:List Nat):prodU (L ++ [xs]) = prodU L * U xs:=by
 induction L with
 | nil => simp [prodU]
 | cons y r ih => simp only [List.cons_append,prodU,ih,Nat.mul_assoc]
theorem take_snoc_some {α:Type} {L:List α} {k:Nat} {x:α} (h:L[k]? = some x):L.take (k + 1) = L.take k ++ [x]:=by
 obtain ⟨hk,hx⟩:=List.getElem?_eq_some_iff.1 h;rw [List.take_succ_eq_append_getElem hk,hx]
theorem sum_small {L:List (List Nat)} {M:Nat} (h:∀ xs∈L,U xs < 4294967296 ^ M) (hl:L.length<=1000):sumU L < 4294967296 ^ (M + 1):=by
 have key:∀ L:List (List Nat),(∀ xs∈L,U xs < 4294967296 ^ M)->sumU L<=L.length * 4294967296 ^ M:=by
  intro L
  induction L with
  | nil => intro _; simp [sumU]
  | cons y r ih =>
   intro h;have h1:=h y (by simp);have h2:=ih (fun xs hx => h xs (by simp [hx]));simp only [sumU,List.length_cons,Nat.add_mul];omega
 have h1:=key L h;have h2:L.length * 4294967296 ^ M<=1000 * 4294967296 ^ M:=Nat.mul_le_mul_right _ hl;have h3:0 < 4294967296 ^ M:=Nat.pow_pos (by omega);rw [Nat.pow_succ];omega
theorem prod_small {L:List (List Nat)} {M:Nat} (h:∀ xs∈L,U xs < 4294967296 ^ M):prodU L < 4294967296 ^ (L.length * M + 1):=by
 induction L with
 | nil => simp [prodU]
 | cons y r ih =>
  have h1:=h y (by simp);have h2:=ih (fun xs hx => h xs (by simp [hx]));simp only [prodU,List.length_cons];rw [show (r.length + 1) * M + 1 = M + (r.length * M + 1) by rw [Nat.add_mul]; omega,Nat.pow_add];have h3:0 < 4294967296 ^ M:=Nat.pow_pos (by omega);have h4:U y * prodU r<=4294967296 ^ M * prodU r:=Nat.mul_le_mul_right _ (by omega)
  have h5:4294967296 ^ M * prodU r < 4294967296 ^ M * 4294967296 ^ (r.length * M + 1):=Nat.mul_lt_mul_of_pos_left h2 h3;omega
theorem natAdd_any (A:Option Addr) (L:List (List Nat)) (n c M:Nat) (w:World) (hl:L.length = n) (hr:Rows w w.heap.size A L M) (hn:n<=1000) (hM:M<=100000) :
  Calls Tryz.prog 79 #[.slice A n c] w (RetNv w (sumU L)):=by
 have HL:=qz hl;have HR:=qz hr
 have hsm:∀ k,sumU (L.take k) < 4294967296 ^ (M + 1):=fun k => sum_small (fun xs hx => by
  obtain ⟨i,hi,he⟩:=List.getElem_of_mem (List.mem_of_mem_take hx);obtain ⟨_,_,_,n',_,_,_,_,h4,_,_,h7,h8⟩:=hr i xs (by rw [List.getElem?_eq_getElem hi,he])
  exact Nat.lt_of_lt_of_le (U_lt h7) (Nat.pow_le_pow_right (by omega) (by omega))) (by simp; omega)
 have HSM:=qz hsm;clear hl hr hsm;go_enter Tryz.func79,Tryz.ntmps79;go_wp2_with fail
 go_loopw [3,8] (fun v iv wr => ∃ (k:Nat) (A':Option Addr) (c':Nat) (zs:List Nat),iv = .int .i64 (k:Int)/\k<=n/\v = .slice A' zs.length c'/\zs.length<=c'/\Ow wr w.heap.size (.slice A' zs.length c') zs.length zs/\Cn zs/\U zs = sumU (L.take k)/\Below w.heap.size w wr)
  (fun _ iv _ => n - (intOf iv).toNat)
 case atStart => exact ⟨0,none,0,[],rfl,by omega,rfl,Nat.le_refl _,Ow.nil _ _,Cn.nil,rfl,Below.refl _ _⟩
 case round =>
  obtain ⟨k,A',c',zs,rfl,hk,rfl,hc',how,hcan,hU,hB⟩:=hrel;have HOW:=qz how;have HC:=qz hcan;have HU:=qz hU;have hBs:=hB.size;clear how hcan hU;by_cases hkn:k < n
  ·
   obtain ⟨xs,hxs⟩:∃ xs,L[k]? = some xs:=⟨_,List.getElem?_eq_getElem (by have:=HL.out; omega)⟩
   obtain ⟨b,o,A2,n2,c2,hA,hb,hcell,hl2,hc2,hr2,hd2,hn2⟩:=(HR.out.below hB) k xs hxs;subst hA;have HX:=qz hxs;have hcl2:=cl_le xs;have HC2:=qz (cl_can hd2);have HU2:=qz (cl_U xs);have HL2:=qz hl2;have hzn:zs.length<=M + 1:=HC.out.len (by rw [HU.out]; exact HSM.out k);have hk0:(0:Int)<=(k:Int):=by omega
   have hk1:(k:Int) < (n:Int):=by omega
   clear hxs hl2;go_wp2_with fail;refine (shorten_cl A2 xs n2 c2 wr HL2.out (hr2.more hBs) hd2 (by omega) hc2).mono ?_;rintro e w2 ⟨rfl,rfl⟩;obtain ⟨m,hm⟩:=exq (cl xs);rw [hm] at hcl2 HC2 HU2 ⊢;have HML:Hid ((xs.take m).length = m):=qz (by have:=HL2.out; simp; omega);have hmn:m<=n2:=by have:=HL2.out; omega
   clear hm hcl2;go_wp2_with fail;refine (addOnto_any w.heap.size A' c' zs.length zs A2 (xs.take m) m c2 wr HOW.out HC.out HC2.out HML.out hc' (hr2.take m) hBs (by omega) (by omega)).mono ?_;rintro e w3 ⟨v3,zs3,rfl,how3,hcan3,hU3,hB3⟩;obtain ⟨A3,c3,rfl,hc3⟩:=how3.form;have HOW3:=qz how3;have HC3:=qz hcan3
   have HU3:Hid (U zs3 = sumU (L.take (k + 1))):=qz (by rw [hU3,take_snoc_some HX.out,sumU_snoc,HU.out,HU2.out]);clear how3 hcan3 hU3;go_wp2_with fail;go_roundw
   case rel => exact ⟨k + 1,A3,c3,zs3,by go_num,by omega,rfl,hc3,HOW3.out,HC3.out,HU3.out,hB.trans hB3⟩
   case measure => simp [intOf]; omega
  ·
   obtain rfl:k = n:=by omega
   have HF:Hid (U zs = sumU L):=qz (by rw [HU.out,List.take_of_length_le (by have:=HL.out; omega)]);go_wp2_with fail;go_ret;have:=HOW.out.nv hc' HC.out;rw [HF.out] at this;exact ⟨_,rfl,this,hB⟩
theorem natMul_any (A:Option Addr) (L:List (List Nat)) (n c M:Nat) (w:World) (hl:L.length = n) (hr:Rows w w.heap.size A L M) (hn:n<=10) (hM:M<=5000) :
  Calls Tryz.prog 42 #[.slice A n c] w (RetNv w (prodU L)):=by
 have HL:=qz hl;have HR:=qz hr
 have hsm:∀ k,prodU (L.take k) < 4294967296 ^ (n * M + 1):=fun k => Nat.lt_of_lt_of_le (prod_small (M:=M) (fun xs hx => by
  obtain ⟨i,hi,he⟩:=List.getElem_of_mem (List.mem_of_mem_take hx);obtain ⟨_,_,_,n',_,_,_,_,h4,_,_,h7,h8⟩:=hr i xs (by rw [List.getElem?_eq_getElem hi,he])
  exact Nat.lt_of_lt_of_le (U_lt h7) (Nat.pow_le_pow_right (by omega) (by omega)))) (Nat.pow_le_pow_right (by omega) (by
   have h1:(L.take k).length<=n:=by simp; omega
   have h2:=Nat.mul_le_mul_right M h1
   omega))
 have HSM:=qz hsm;have hnM:n * M<=50000:=Nat.le_trans (Nat.mul_le_mul hn hM) (by omega);clear hl hr hsm;go_enter Tryz.func42,Tryz.ntmps42;go_wp2_with fail;refine (natOf_any 1 w (by omega)).mono ?_;rintro e w1 ⟨v1,rfl,hn1,hB1⟩;obtain ⟨A1,ds1,m1,c1,rfl,hml1,hmc1,hmr1,hmf1,hmcan1,hmU1⟩:=hn1;subst hml1
 have HNV1:Hid (Nv w1 w.heap.size (.slice A1 ds1.length c1) 1):=qz ⟨A1,ds1,_,c1,rfl,rfl,hmc1,hmr1,hmf1,hmcan1,hmU1⟩;clear hmr1 hmf1 hmcan1 hmU1;go_wp2_with fail
 go_loopw [3,9] (fun v iv wr => ∃ (k:Nat) (A':Option Addr) (n' c':Nat),iv = .int .i64 (k:Int)/\k<=n/\v = .slice A' n' c'/\Nv wr w.heap.size (.slice A' n' c') (prodU (L.take k))/\Below w.heap.size w wr)
  (fun _ iv _ => n - (intOf iv).toNat)
 case atStart => exact ⟨0,A1,ds1.length,c1,rfl,by omega,rfl,HNV1.out,hB1⟩
 case round =>
  clear HNV1;obtain ⟨k,A',n',c',rfl,hk,rfl,hnv,hB⟩:=hrel;have HNV:=qz hnv;have hBs:=hB.size;clear hnv;by_cases hkn:k < n
  ·
   obtain ⟨xs,hxs⟩:∃ xs,L[k]? = some xs:=⟨_,List.getElem?_eq_getElem (by have:=HL.out; omega)⟩
   obtain ⟨b,o,A2,n2,c2,hA,hb,hcell,hl2,hc2,hr2,hd2,hn2⟩:=(HR.out.below hB) k xs hxs;subst hA;have HX:=qz hxs;have hcl2:=cl_le xs;have HC2:=qz (cl_can hd2);have HU2:=qz (cl_U xs);have HL2:=qz hl2;obtain ⟨Ap,zs,np,cp,hpv,hpl,hpc,hpr,hpcan,hpU,hpn⟩:=HNV.out.form (HSM.out k);injection hpv with e1 e2 e3
   subst e1 e2 e3;have hk0:(0:Int)<=(k:Int):=by omega
   have hk1:(k:Int) < (n:Int):=by omega
   clear hxs hl2;go_wp2_with fail;refine (shorten_cl A2 xs n2 c2 wr HL2.out (hr2.more hBs) hd2 (by omega) hc2).mono ?_;rintro e w2 ⟨rfl,rfl⟩;obtain ⟨m,hm⟩:=exq (cl xs);rw [hm] at hcl2 HC2 HU2 ⊢;have HML:Hid ((xs.take m).length = m):=qz (by have:=HL2.out; simp; omega);have hmn:m<=n2:=by have:=HL2.out; omega
   clear hm hcl2;go_wp2_with fail;refine (mulTwo_any A' A2 zs (xs.take m) n' c' m c2 wr hpl.out HML.out hpr ((hr2.take m).more hBs) hpcan.1 HC2.out.1 (by omega) (by omega)).mono ?_;rintro e w3 ⟨v3,rfl,hn3,hB3⟩;obtain ⟨A3,n3,c3,rfl⟩:=hn3.shape
   have HNV3:Hid (Nv w3 w.heap.size (.slice A3 n3 c3) (prodU (L.take (k + 1)))):=qz (by
    have h:=hn3.more hBs
    rwa [hpU.out,HU2.out,<- prodU_snoc,<- take_snoc_some HX.out] at h)
   clear hn3;go_wp2_with fail;go_roundw
   case rel => exact ⟨k + 1,A3,n3,c3,by go_num,by omega,rfl,HNV3.out,hB.trans (hB3.mono hBs)⟩
   case measure => simp [intOf]; omega
  ·
   obtain rfl:k = n:=by omega
   have HF:Hid (prodU (L.take k) = prodU L):=qz (by rw [List.take_of_length_le (by have:=HL.out; omega)]);go_wp2_with fail;go_ret;have:=HNV.out;rw [HF.out] at this;exact ⟨_,rfl,this,hB⟩
end
section
open Go.RowKit Go.Shelf
attribute [local go_sem] Oper.semAt_some
theorem U_last {xs:List Nat} {m k:Nat} (hk:k < m):U ((xs.take m).drop (m - (k + 1))) = U ((xs.take m).drop (m - k)) * 4294967296 + nth xs (m - 1 - k):=by
 have e:m - (k + 1) + 1 = m - k:=by omega
 have:=U_drop (xs.take m) (m - (k + 1));rw [e] at this;rw [this,nth_take (by omega),show m - (k + 1) = m - 1 - k by omega];omega
theorem U_small {xs:List Nat} (h:Dg xs) {k:Nat} (hk:xs.length<=k):U xs < 4294967296 ^ k:=Nat.lt_of_lt_of_le (U_lt h) (Nat.pow_le_pow_right (by omega) hk)
theorem natWord_step {a d:Nat} (ha:a < 4294967296) (hd:d < 4294967296):bits .or .u64 ((a:Int) * 4294967296) (IntKind.u64.wrap (d:Int)) = ((a * 4294967296 + d:Nat):Int):=by
 rw [IntWalk.u64_in (d:Int) (by omega),show (a:Int) * 4294967296 = ((a * 4294967296:Nat):Int) by omega,or_low32 a d ha hd]
set_option maxRecDepth 100000 in
theorem natWord_any (A:Option Addr) (xs:List Nat) (n c:Nat) (w:World) (hl:xs.length = n) (hr:Ra w w.heap.size A xs) (hd:Dg xs) (hn:n<=10000000) (hc:n<=c) :
  Calls Tryz.prog 127 #[.slice A n c] w fun e w' => e = .returned (.tuple #[.int .u64 ((fw (U xs):Nat):Int),.bool (fb (U xs))])/\Below w.heap.size w w':=by
 obtain ⟨q,hq⟩:=exq (fw (U xs));obtain ⟨z,hz⟩:=exq (fb (U xs));rw [hq,hz];refine (callsIn_wide (n:=5)).1 ?_;refine callsIn_of_wp_marks Tryz.func127 rfl trivial ?_ rfl
 simp only [Tryz.ntmps127,List.size_toArray,List.length_cons,List.length_nil,Nat.reduceAdd,Nat.reduceSub,Array.replicate_succ,Array.replicate_zero,List.push_toArray,List.append_toArray,List.nil_append,List.cons_append];gi_wp2_with fail;refine ⟨trivial,(callsIn_wide.2 (shorten_any A xs n c w hl hr hd hn hc)).mono ?_⟩;rintro e w' ⟨m,hm,rfl,hcan,hU,rfl⟩
 have hml:(xs.take m).length = m:=by simp; omega
 rw [<- hU] at hq hz;have hr1:=hr.take m;have HD:=qz hd;have HC:=qz hcan;clear hU hl hr hd;by_cases h2:m<=2
 ·
  have hlt:U (xs.take m) < 18446744073709551616:=Nat.lt_of_lt_of_le (U_small HC.out.1 (k:=2) (by omega)) (by decide);rw [fw_in hlt] at hq;rw [fb_in hlt] at hz;subst hz;have HQ:=qz hq;clear hq;have HML:=qz hml;clear hlt hml;gi_wp2_with fail;refine ⟨trivial,(backw_in Fence.wide _ trivial rfl A m c _).mono ?_⟩;rintro e w' ⟨rfl,rfl⟩
  have bS:=Boxed.new w 38 (.int .u64 0);have bN:=Boxed.new (w.alloc (.cells #[.int .u64 0] 38)) 44 (.slice A m c);rw [World.size_alloc] at bN;have hB0:Below w.heap.size w ((w.alloc (.cells #[.int .u64 0] 38)).alloc (.cells #[.slice A m c] 44)):=((Below.refl _ w).alloc (Nat.le_refl _) _).alloc (by simp) _
  have hr2:Ra ((w.alloc (.cells #[.int .u64 0] 38)).alloc (.cells #[.slice A m c] 44)) (w.heap.size + 2) A (xs.take m):=(hr1.below hB0 (Nat.le_refl _)).more (by omega);have hgo:=backw_goes Fence.wide 4 trivial rfl (by omega) (w.heap.size + 1) A (xs.take m) m c _ HML.out (hr1.below hB0 (Nat.le_refl _) |>.more (by simp; omega)) (by omega) (by omega) bN.cell
  gi_wp2_with fail
  refine wpIn_rangeFunc_goes rfl (by omega) (gf:=84) (lb:=#[.pointer (some ⟨w.heap.size + 1,0,none⟩)]) rfl trivial (enters_of Tryz.func84 (by kernel_rfl) rfl)
   hgo (bkeep_lt HML.out (hr2.more (by simp)) (by simp)) (Below.refl _ _) (fun _ => rfl)
   (fun k W => (W.cell? ⟨w.heap.size,0,none⟩ = some (.int .u64 ((U ((xs.take m).drop (m - k)):Nat):Int))/\W.frozen? ⟨w.heap.size,0,none⟩ = false)/\Below w.heap.size w W)
   (fun _ _ _ => False)
   (OwnFrom.and (Own.from (fun s X Y row hs hg hr => ⟨cell_kept hs.1 hg hr,(frozen_kept hs.1 hg hr).trans hs.2⟩) _) (ownFrom_below (Nat.le_refl _) (by simp; omega)))
   (fun _ _ _ _ _ hs _ _ => hs)
   ⟨⟨by rw [(bS.alloc _).cell]; simp [U,HML.out],(bS.alloc _).frozen⟩,hB0⟩ ?round ?done ?stop
  case round =>
   intro l k W hk _;simp only [benc];gi_wp2;refine ⟨trivial,?_⟩;rintro W ⟨⟨hcw,hfw⟩,hBW⟩;have hdk:=HD.out.nth (m - 1 - k);have hsm:U ((xs.take m).drop (m - k)) < 4294967296:=Nat.lt_of_lt_of_le (U_small (HC.out.1.drop _) (k:=1) (by simp; omega)) (by decide);have HUL:=qz (U_last (xs:=xs) hk);gi_wp2
   refine ⟨(KeepsOthers.setCell _ _ _).from _,Same.setCell (q:=⟨w.heap.size,0,none⟩) (fun p hp => bkeep_ne HML.out hr1 (Nat.le_refl _) (by omega) k p hp) _,⟨?_,by rw [World.frozen?_setCell]; exact hfw⟩,hBW.setCell (p:=⟨w.heap.size,0,none⟩) (Nat.le_refl _) _⟩
   rw [World.cell?_setCell_same' _ _ _ (by rw [hcw]; rfl),HUL.out,nth_take (by omega),natWord_step hsm hdk]
  case done =>
   rintro D W hD ⟨⟨hcw,_⟩,hBW⟩ hK;have HQ2:Hid (U ((xs.take m).drop (m - m)) = q):=qz (by rw [Nat.sub_self]; simpa using HQ.out);rw [HQ2.out] at hcw;gi_wp2;refine ⟨by simp,.inl ⟨_,_,rfl,run_takeDeferred hK,?_⟩⟩;exact ⟨_,results_tmp2 rfl _ _ _,rfl,hBW.trans (belowK_b (w:=w) (Nat.le_refl _) W D _ _ (by simp at hD; omega) hK rfl rfl)⟩
  case stop =>
   rintro D c k W _ _ h _;exact h.elim
 ·
  have hge:18446744073709551616<=U (xs.take m):=Nat.le_trans (by
   have:(4294967296:Nat) ^ 2<=4294967296 ^ (m - 1):=Nat.pow_le_pow_right (by omega) (by omega)
   omega) (by have:=U_ge HC.out (by intro h; rw [h] at hml; simp at hml; omega); rwa [hml] at this)
  rw [fw_out hge] at hq;rw [fb_out hge] at hz;subst hz hq;clear hge hml;gi_wp2;refine ⟨_,results_tmp2 rfl _ _ _,rfl,Below.refl _ _⟩
end
end Go.Proofs.YtkdmnlihpebbkaaGreat
