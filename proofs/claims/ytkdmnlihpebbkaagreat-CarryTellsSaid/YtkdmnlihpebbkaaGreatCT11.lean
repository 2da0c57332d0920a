import Derived.Test.YtkdmnlihpebbkaaGreatCT10
set_option linter.all false
set_option maxHeartbeats 4000000
namespace Go.Proofs.YtkdmnlihpebbkaaGreat
section
open Go.RowKit
set_option maxRecDepth 100000
def NumA (W:World) (B:Nat) (v:Value) (a:Nat):Prop:=∃ A xs n c,v = .agg #[.slice A n c]/\xs.length = n/\n<=c/\Rd W W.heap.size A xs/\(xs≠[]->∀ b o,A = some ⟨b,o,none⟩->b < B\/B + 2 < b)/\Can xs/\V xs = a
theorem NumA.num {W:World} {B:Nat} {v:Value} {a:Nat} (h:NumA W B v a):Num W 0 v a:=by
 obtain ⟨A,xs,n,c,h1,hl,h2,h3,_,h5,h6⟩:=h;exact ⟨A,xs,n,c,h1,hl,h2,h3,fun hx => by obtain ⟨b,o,e,_,_⟩:=h3 hx; exact ⟨b,o,e,Nat.zero_le _⟩,h5,h6⟩
theorem NumA.below {W W':World} {B:Nat} {v:Value} {a:Nat} (h:NumA W B v a) (hb:Below W.heap.size W W'):NumA W' B v a:=by
 obtain ⟨A,xs,n,c,h1,hl,h2,h3,h4,h5⟩:=h;exact ⟨A,xs,n,c,h1,hl,h2,(h3.below hb (Nat.le_refl _)).more hb.size,h4,h5⟩
theorem NumA.set {W:World} {B g:Nat} {v u:Value} {a:Nat} (h:NumA W B v a) (h1:B<=g) (h2:g<=B + 2):NumA (W.setCell ⟨g,0,none⟩ u) B v a:=by
 obtain ⟨A,xs,n,c,e1,hl,e2,h3,h4,h5⟩:=h;refine ⟨A,xs,n,c,e1,hl,e2,?_,h4,h5⟩;rw [setCell_size];intro hx;obtain ⟨b,o,e,hb,hc⟩:=h3 hx;refine ⟨b,o,e,hb,fun k hk => ?_⟩
 rw [World.cell?_setCell_other W _ _ u (fun e' => by
  have:=h4 hx b o e;injection e' with e1 e2
  omega)]
 exact hc k hk
theorem NumA.old {w:World} {L:Nat} {v:Value} {a:Nat} (h:Num w L v a):NumA w w.heap.size v a:=by
 obtain ⟨A,xs,n,c,h1,hl,h2,h3,_,h5,h6⟩:=h
 exact ⟨A,xs,n,c,h1,hl,h2,h3,fun hx b' o' e' => by
  obtain ⟨b,o,e,hb,_⟩:=h3 hx;rw [e] at e';injection e' with e'
  injection e' with e1 e2
  subst e1
  exact .inl hb,h5,h6⟩
theorem NumA.new {W:World} {B L:Nat} {v:Value} {a:Nat} (h:Num W L v a) (hL:B + 2 < L):NumA W B v a:=by
 obtain ⟨A,xs,n,c,h1,hl,h2,h3,h4,h5,h6⟩:=h
 exact ⟨A,xs,n,c,h1,hl,h2,h3,fun hx b' o' e' => by
  obtain ⟨b,o,e,hb⟩:=h4 hx;rw [e] at e';injection e' with e'
  injection e' with e1 e2
  subst e1
  exact .inr (by omega),h5,h6⟩
theorem Num.same {W:World} {L L':Nat} {v:Value} {a b:Nat} (h:Num W L v a) (k:Num W L' v b):a = b:=by
 obtain ⟨A,xs,n,c,h1,hl,h2,h3,_,_,h6⟩:=h;obtain ⟨A',ys,n',c',k1,kl,k2,k3,_,_,k6⟩:=k;rw [h1] at k1;simp only [Value.agg.injEq,Array.mk.injEq,List.cons.injEq,Value.slice.injEq,and_true] at k1;obtain ⟨rfl,rfl,rfl⟩:=k1
 have hxy:xs = ys:=by
  apply List.ext_getElem (by omega);intro i hi hj;obtain ⟨b1,o1,e1,_,c1⟩:=h3 (by rintro rfl; simp at hi);obtain ⟨b2,o2,e2,_,c2⟩:=k3 (by rintro rfl; simp at hj);rw [e1] at e2;injection e2 with e2
  injection e2 with e3 e4
  subst e3 e4;have:=(c1 i hi).symm.trans (c2 i hj);rw [nth_in hi,nth_in hj] at this;simp only [Option.some.injEq,Value.int.injEq,true_and] at this;omega
 rw [<- h6,<- k6,hxy]
open Classical in
noncomputable def boxN (W:World) (g:Nat):Nat:=if h:∃ a s L,W.cell? ⟨g,0,none⟩ = some s/\Num W L (.agg #[s]) a then h.choose else 0
theorem boxN_eq {W:World} {g a L:Nat} {s:Value} (hc:W.cell? ⟨g,0,none⟩ = some s) (hn:Num W L (.agg #[s]) a):boxN W g = a:=by
 have h:∃ a s L,W.cell? ⟨g,0,none⟩ = some s/\Num W L (.agg #[s]) a:=⟨a,s,L,hc,hn⟩
 unfold boxN;rw [dif_pos h];obtain ⟨s',L',hc',hn'⟩:=h.choose_spec;rw [hc] at hc';injection hc' with hc'
 subst hc';exact hn'.same hn
theorem num_len3 {w:World} {L m n c:Nat} {A:Option Addr} (h:Num w L (.agg #[.slice A n c]) m):(n = 0/\m = 0)\/(0 < n/\0 < m):=by
 obtain ⟨A',xs,n',c',hv,hl,_,_,_,hcan,hV⟩:=h;simp only [Value.agg.injEq,Array.mk.injEq,List.cons.injEq,Value.slice.injEq,and_true] at hv;obtain ⟨rfl,rfl,rfl⟩:=hv;rcases xs with _ | ⟨d,r⟩
 · exact .inl ⟨by simpa using hl.symm,by rw [<- hV]; rfl⟩
 ·
  refine .inr ⟨by rw [<- hl]; simp,?_⟩;rcases Nat.eq_zero_or_pos m with h0 | h0
  ·
   have:d :: r = []:=V_inj hcan Can.nil (by rw [hV,h0]; rfl);cases this
  · exact h0
structure GM (w:World) (x y:Nat) (s t:Value) (wr:World):Prop where
 below:Below w.heap.size w wr
 one:Blk wr w.heap.size 33 #[s]
 two:Blk wr (w.heap.size + 1) 33 #[t]
 res:Blk wr (w.heap.size + 2) 33 #[.slice none 0 0]
 nx:NumA wr w.heap.size (.agg #[s]) x
 ny:NumA wr w.heap.size (.agg #[t]) y
theorem GM.step {w wr w':World} {x y:Nat} {s t:Value} (h:GM w x y s t wr) (hb:Below wr.heap.size wr w'):GM w x y s t w' :=
 ⟨h.below.trans (hb.mono h.below.size),h.one.below hb h.one.lt,h.two.below hb h.two.lt,h.res.below hb h.res.lt,h.nx.below hb,h.ny.below hb⟩
theorem GM.turn {w wr:World} {x y z:Nat} {s t r:Value} (h:GM w x y s t wr) (hz:NumA wr w.heap.size (.agg #[r]) z):GM w y z t r ((wr.setCell ⟨w.heap.size,0,none⟩ t).setCell ⟨w.heap.size + 1,0,none⟩ r) :=
 ⟨(
  h.below.setCell (by simp) _).setCell (by simp) _,by have:=(h.one.set_ 0 t).far (p:=⟨w.heap.size + 1,0,none⟩) (by simp) r; simpa using this,by have:=(h.two.far (p:=⟨w.heap.size,0,none⟩) (by simp) t).set_ 0 r; simpa using this,(h.res.far (by simp) _).far (by simp) _,
  (h.ny.set (by omega) (by omega)).set (by omega) (by omega),(hz.set (by omega) (by omega)).set (by omega) (by omega)⟩
theorem refGcd3_any {j:Nat} (A1 A2:Option Addr) (n1 c1 n2 c2 a b L1 L2:Nat) (w:World) (h1:Num w L1 (.agg #[.slice A1 n1 c1]) a) (h2:Num w L2 (.agg #[.slice A2 n2 c2]) b) (ha:a < 65536 ^ j) (hb:b < 65536 ^ j) (hj:j<=4000) :
  Calls Tryz.prog 69 #[.agg #[.slice A1 n1 c1],.agg #[.slice A2 n2 c2]] w fun e w' => ∃ v,e = .returned v/\(∃ L,Num w' L v (Nat.gcd a b))/\Below w.heap.size w w':=by
 obtain ⟨G,hG⟩:=exq (Nat.gcd a b);rw [hG];have HA:=qz ha;have HB:=qz hb;have HG:=qz hG
 have hb0:Below w.heap.size w (((w.alloc (.cells #[.slice A1 n1 c1] 33)).alloc (.cells #[.slice A2 n2 c2] 33)).alloc (.cells #[.slice none 0 0] 33)) :=
  (((Below.refl _ _).alloc (Nat.le_refl _) _).alloc (by simp) _).alloc (by simp; omega) _
 have q2:=(Blk.new (w.alloc (.cells #[.slice A1 n1 c1] 33)) 33 #[.slice A2 n2 c2]).alloc (.cells #[.slice none 0 0] 33);have q3:=Blk.new ((w.alloc (.cells #[.slice A1 n1 c1] 33)).alloc (.cells #[.slice A2 n2 c2] 33)) 33 #[.slice none 0 0]
 have hm0:GM w a b (.slice A1 n1 c1) (.slice A2 n2 c2) _:=⟨hb0,((Blk.new w _ _).alloc _).alloc _,by simpa using q2,by simpa using q3,(NumA.old h1).below hb0,(NumA.old h2).below hb0⟩
 have HM0:=qz hm0;clear ha hb hG h1 h2 hb0 q2 q3 hm0;go_enter Tryz.func69,Tryz.ntmps69;go_wp2_with fail;go_loopw [] (fun wr => ∃ (x y:Nat) (A:Option Addr) (n c:Nat) (A':Option Addr) (n' c':Nat),GM w x y (.slice A n c) (.slice A' n' c') wr/\Nat.gcd x y = G/\x < 65536 ^ j/\y < 65536 ^ j) (fun wr => boxN wr (w.heap.size + 1))
 case atStart => exact ⟨a,b,A1,n1,c1,A2,n2,c2,HM0.out,HG.out,HA.out,HB.out⟩
 case round =>
  clear HM0 HA HB HG;obtain ⟨x,y,A,n,c,A',n',c',hm,hg,hx,hy⟩:=hrel;have c1':wr.cell? ⟨w.heap.size,0,none⟩ = some (.slice A n c):=hm.one.cell 0;have c2':wr.cell? ⟨w.heap.size + 1,0,none⟩ = some (.slice A' n' c'):=hm.two.cell 0;have c3':wr.cell? ⟨w.heap.size + 1 + 1,0,none⟩ = some (.slice none 0 0):=hm.res.cell 0;have f1':=hm.one.frozen 0
  have f2':=hm.two.frozen 0;have f3':wr.frozen? ⟨w.heap.size + 1 + 1,0,none⟩ = false:=hm.res.frozen 0;have hlt:=hm.res.lt;have hnl:=num_len3 hm.ny.num;have HM:=qz hm;have HG:=qz hg;have HX:=qz hx;have HY:=qz hy;have HBX:=qz (boxN_eq c2' hm.ny.num);clear hm hg hx hy;rcases hnl with ⟨rfl,rfl⟩ | ⟨hn0,hy0⟩
  ·
   have hxG:x = G:=by have:=HG.out; rwa [Nat.gcd_zero_right] at this
   subst hxG;go_wp2_with fail;have cc:(wr.setCell ⟨w.heap.size + 1 + 1,0,none⟩ (.slice A n c)).cell? ⟨w.heap.size + 1 + 1,0,none⟩ = some (.slice A n c):=by have:=(HM.out.res.set_ 0 (.slice A n c)).cell 0; simpa using this
   exact bodyPost_ret (v:=.agg #[.slice A n c]) (by simp [results,Tryz.results69,go_sem,cc]) rfl ⟨_,rfl,⟨0,(HM.out.nx.set (g:=w.heap.size + 1 + 1) (by omega) (by omega)).num⟩,HM.out.below.setCell (by simp; omega) _⟩
  ·
   go_wp2_with fail;refine (div_num (.agg #[.slice A n c]) (.agg #[.slice A' n' c']) x y _ _ wr HM.out.nx.num HM.out.ny.num HX.out HY.out hy0).mono ?_;rintro e u ⟨v1,v2,rfl,hq1,hq2,hb⟩;obtain ⟨A4,n4,c4,rfl⟩:=hq1.shape;obtain ⟨A5,n5,c5,rfl⟩:=hq2.shape;have hm1:=HM.out.step hb;have hsz:=hb.size;have H5:=qz (NumA.new (B:=w.heap.size) hq2 (by omega))
   have HM1:=qz hm1;have hm2:=hm1.step (b2 u (.cells #[.slice A4 n4 c4] 33) (.cells #[.slice A5 n5 c5] 33));have d2:((u.alloc (.cells #[.slice A4 n4 c4] 33)).alloc (.cells #[.slice A5 n5 c5] 33)).cell? ⟨w.heap.size + 1,0,none⟩ = some (.slice A' n' c'):=hm2.two.cell 0
   have d1:((u.alloc (.cells #[.slice A4 n4 c4] 33)).alloc (.cells #[.slice A5 n5 c5] 33)).cell? ⟨w.heap.size,0,none⟩ = some (.slice A n c):=hm2.one.cell 0;have e1:=hm2.one.frozen 0;have e2:=hm2.two.frozen 0;have hlt1:=hm1.res.lt;have HM2:=qz hm2;clear hm2;clear hm1 hq1 hq2 c1' c2' c3' f1' f2' f3';go_wp2_with fail
   have ht:=HM2.out.turn (H5.out.below (b2 u (.cells #[.slice A4 n4 c4] 33) (.cells #[.slice A5 n5 c5] 33)));refine ⟨⟨y,x % y,A',n',c',A5,n5,c5,ht,by rw [<- HG.out,Nat.gcd_comm x y,Nat.gcd_rec y x,Nat.gcd_comm],HY.out,Nat.lt_trans (Nat.mod_lt _ hy0) HY.out⟩,?_⟩;rw [boxN_eq (ht.two.cell 0) ht.ny.num,HBX.out];exact Nat.mod_lt _ hy0
theorem U_set (ds:List Nat) (j r:Nat) (hj:j < ds.length):U (ds.set j r) + 4294967296 ^ j * nth ds j = U ds + 4294967296 ^ j * r:=by
 induction ds generalizing j with
 | nil => simp at hj
 | cons d t ih =>
  cases j with
  | zero => simp [List.set,U,nth]; omega
  | succ j =>
   have:=ih j (by simpa using hj);simp only [List.set,U,nth_cons,Nat.pow_succ];generalize U (t.set j r) = a at *
   generalize 4294967296 ^ j = P at *
   grind
def MOut (xs ys:List Nat) (n2 N i:Nat) (ds:List Nat):Prop:=ds.length = N/\Dg ds/\U ds = U (xs.take i) * U ys/\∀ j,i + n2<=j->nth ds j = 0
def MIn (xs ys:List Nat) (n2 N i k o:Nat) (ds:List Nat):Prop :=
 ds.length = N/\Dg ds/\U ds + 4294967296 ^ (i + k) * o = U (xs.take i) * U ys + 4294967296 ^ i * nth xs i * U (ys.take k)/\(∀ j,i + n2<=j->nth ds j = 0)/\o < 4294967296
theorem MOut.start {xs ys ds:List Nat} {n2 N i:Nat} (h:MOut xs ys n2 N i ds):MIn xs ys n2 N i 0 0 ds:=by
 obtain ⟨h1,h2,h3,h4⟩:=h;exact ⟨h1,h2,by simp [U,h3],h4,by omega⟩
theorem MIn.step {xs ys ds:List Nat} {n2 N i k o X:Nat} (h:MIn xs ys n2 N i k o ds) (hX:o + (nth xs i * nth ys k + nth ds (i + k)) = X) (hk:k < n2) (hj:i + k < N) (hXb:X / 4294967296 < 4294967296) :
  MIn xs ys n2 N i (k + 1) (X / 4294967296) (ds.set (i + k) (X % 4294967296)):=by
 obtain ⟨hl,hd,hv,hz,ho⟩:=h;refine ⟨by simp [hl],hd.set (by omega),?_,fun j h1 => ?_,hXb⟩
 ·
  have h1:=U_set ds (i + k) (X % 4294967296) (by omega);rw [U_take_succ];have h2:=Nat.div_add_mod X 4294967296;rw [show i + (k + 1) = (i + k) + 1 by omega,Nat.pow_succ];rw [Nat.pow_add] at *
  generalize X / 4294967296 = q at *
  generalize X % 4294967296 = r at *
  generalize U (ds.set (i + k) r) = v' at *
  generalize 4294967296 ^ i = P at *
  generalize 4294967296 ^ k = R at *
  have e:P * R * (o + (nth xs i * nth ys k + nth ds (i + k))) = P * R * (4294967296 * q + r):=by rw [hX,h2]
  grind
 ·
  rw [nth_set32 (by omega),if_neg (by omega)];exact hz j h1
theorem MIn.done {xs ys ds:List Nat} {n2 N i o:Nat} (h:MIn xs ys n2 N i n2 o ds) (hy:ys.length = n2) (hj:i + n2 < N):MOut xs ys n2 N (i + 1) (ds.set (i + n2) o):=by
 obtain ⟨hl,hd,hv,hz,ho⟩:=h;refine ⟨by simp [hl],hd.set ho,?_,fun j h1 => ?_⟩
 ·
  have h1:=U_set ds (i + n2) o (by omega);have h2:=hz (i + n2) (Nat.le_refl _);rw [U_take_all ys _ (by omega)] at hv;rw [U_take_succ];rw [h2] at h1;generalize 4294967296 ^ (i + n2) = Q at *
  generalize 4294967296 ^ i = P at *
  grind
 ·
  rw [nth_set32 (by omega),if_neg (by omega)];exact hz j (by omega)
theorem mul_prod32 {a b:Nat} (ha:a < 4294967296) (hb:b < 4294967296):a * b<=18446744065119617025:=Nat.mul_le_mul (show a<=4294967295 by omega) (show b<=4294967295 by omega)
theorem zeros_dg (N:Nat):Dg (List.replicate N 0):=fun d hd => by
 have:=(List.mem_replicate.1 hd).2;omega
theorem zeros_U (N:Nat):U (List.replicate N 0) = 0:=by
 induction N with
 | zero => rfl
 | succ n ih => rw [List.replicate_succ,U,ih]
theorem madeCells_u32s (N:Nat):(madeCells (Value.int .u32 0).cells (N * 1)).toList = u32s (List.replicate N 0):=by
 have e:(madeCells (Value.int .u32 0).cells (N * 1)).toList = (List.range N).map fun x => [Value.int IntKind.u32 0][x % 1]?.getD default:=by simp [madeCells,Value.cells]
 rw [e];simp only [u32s,List.map_replicate];apply List.ext_getElem
 · simp
 ·
  intro i h1 h2;simp [Nat.mod_one]
theorem mulTwo_any (A1 A2:Option Addr) (xs ys:List Nat) (n1 c1 n2 c2:Nat) (w:World) (hl1:xs.length = n1) (hl2:ys.length = n2) (hr1:Ra w w.heap.size A1 xs) (hr2:Ra w w.heap.size A2 ys)
  (hd1:Dg xs) (hd2:Dg ys) (hn1:n1<=100000) (hn2:n2<=100000) :
  Calls Tryz.prog 65 #[.slice A1 n1 c1,.slice A2 n2 c2] w (RetNv w (U xs * U ys)):=by
 have HL1:=qz hl1;have HL2:=qz hl2;clear hl1 hl2;obtain ⟨N,hN⟩:=exq (n1 + n2);have HN:=qz hN;have hNb:N<=200000:=by omega
 have hNi:(n1:Int) + (n2:Int) = (N:Int):=by omega
 clear hN;obtain ⟨i0,hi0,hz0,hz1,hz2⟩:=info_parts info_u32;go_enter Tryz.func65,Tryz.ntmps65
 go_wp2_with ((with_reducible refine wpList_make_full _ rfl (.tmp 15) (.tmp 15) 44 rfl w.heap.size 86 i0 (.int .u32 0) 1 Tryz.underlying44 hi0 hz0 hz1 .i64 .i64 _ _ N rfl rfl (by have:=HN.out; omega) (by have:=HN.out; omega) (by rw [hz2]; omega) (by unfold maxLen; omega) (by simp) ?_); intro w1 hown1 hg1)
 have hm0:Win w1 w.heap.size 86 [] (List.replicate N 0) []:=by
  rcases hown1.2 with ⟨h,_⟩ | ⟨g,cap,c,hv,_,hh,_,_,hsz,ht⟩
  · injection h with h; cases h
  ·
   injection hv with hv _ hcap
   injection hv with hv
   injection hv with hv
   subst hv hcap;unfold Win Blk;rw [hh]
   have:c = (u32s (List.replicate N 0)).toArray:=by
    rw [<- madeCells_u32s N,<- ht,List.take_of_length_le (by simp; omega)]
   rw [this]; simp
 have hb0:Below w.heap.size w w1:=(Below.refl _ _).grown hg1 (Nat.le_refl _) (by intro k hk; cases hk);have HM0:=qz hm0;have HB0:=qz hb0;clear hown1 hg1 hm0 hb0 hz0 hz1 hz2
 go_loopw [19] (fun i wr => ∃ (k:Nat) (ds:List Nat),i = .int .i64 (k:Int)/\k<=n1/\MOut xs ys n2 N k ds/\Win wr w.heap.size 86 [] ds []/\Below w.heap.size w wr) (fun i _ => n1 - (intOf i).toNat)
 case atStart => exact ⟨0,List.replicate N 0,rfl,by omega,⟨by simp,zeros_dg N,by rw [zeros_U]; simp [U],fun j _ => zeros_nth N j⟩,HM0.out,HB0.out⟩
 case round =>
  obtain ⟨i,ds,rfl,hi,ho,hw,hB⟩:=hrel;clear HM0 HB0;have HO:=qz ho;have HW:=qz hw;clear ho hw;by_cases hti:i < n1
  ·
   obtain ⟨b1,o1,hA1,hb1,cx⟩:=(hr1.below hB (Nat.le_refl _)).at_ (k:=i) (by have:=HL1.out; omega);subst hA1;have hst:=qz HO.out.start;have hxi:=hd1.nth i;go_wp2_with fail
   go_loopw [8,26] (fun o k wr => ∃ (kk oo:Nat) (ds:List Nat),k = .int .i64 (kk:Int)/\o = .int .u64 (oo:Int)/\kk<=n2/\MIn xs ys n2 N i kk oo ds/\Win wr w.heap.size 86 [] ds []/\Below w.heap.size w wr) (fun _ k _ => n2 - (intOf k).toNat)
   case atStart => exact ⟨0,0,ds,rfl,rfl,by omega,hst.out,HW.out,hB⟩
   case round =>
    clear hst HO HW hB cx;obtain ⟨k,o,ds,rfl,rfl,hk,hin,hw,hB⟩:=hrel;have HIN:=qz hin;have ho:=hin.2.2.2.2;have hdl:=qz hin.1;have hdd:=hin.2.1.nth (i + k);have HZ:Hid (nth ds (i + n2) = 0):=qz (hin.2.2.2.1 _ (Nat.le_refl _));clear hin;by_cases ht:k < n2
    ·
     have cd:=hw.cell (o:=0) rfl (k:=i + k) (by have:=hdl.out; have:=HN.out; omega);rw [Nat.zero_add] at cd;have fd:=hw.frozen (i + k);obtain ⟨b2,o2,hA2,hb2,cy⟩:=(hr2.below hB (Nat.le_refl _)).at_ (k:=k) (by have:=HL2.out; omega);subst hA2;have hyk:=hd2.nth k;have hpr:=mul_prod32 hxi hyk;obtain ⟨X,hX⟩:=exq (o + (nth xs i * nth ys k + nth ds (i + k)))
     have hXb:X < 18446744073709551616:=by omega
     have hXi:(o:Int) + ((nth xs i:Int) * (nth ys k:Int) + (nth ds (i + k):Int)) = (X:Int):=by rw [<- hX]; simp
     have hst:=qz (HIN.out.step hX ht (by have:=HN.out; omega) (by omega));have hp2:(nth xs i:Int) * (nth ys k:Int) = ((nth xs i * nth ys k:Nat):Int):=by simp
     have hpi:(nth xs i:Int) * (nth ys k:Int)<=18446744065119617025:=by omega
     have hpi0:0<=(nth xs i:Int) * (nth ys k:Int):=by omega
     have hik:(i:Int) + (k:Int) < (N:Int):=by have:=HN.out; omega
     have hikn:((i:Int) + (k:Int)).toNat = i + k:=by omega
     clear hX hp2;go_wp2_with fail;go_roundw
     case rel => exact ⟨k + 1,X / 4294967296,ds.set (i + k) (X % 4294967296),by go_num,by go_num,by omega,hst.out,by have:=hw.put (o:=0) rfl (k:=i + k) (d:=X % 4294967296) (u:=(X:Int) % 4294967296) (by have:=hdl.out; have:=HN.out; omega) (by omega); rwa [Nat.zero_add] at this,hB.setCell (by simp) _⟩
     case measure => simp [intOf]; omega
    ·
     obtain rfl:k = n2:=by omega
     have cd:=hw.cell (o:=0) rfl (k:=i + k) (by have:=hdl.out; have:=HN.out; omega);rw [Nat.zero_add] at cd;have fd:=hw.frozen (i + k);have hik:(i:Int) + (k:Int) < (N:Int):=by have:=HN.out; omega
     have hikn:((i:Int) + (k:Int)).toNat = i + k:=by omega
     have hdn:=qz (HIN.out.done HL2.out (by have:=HN.out; omega));go_wp2_with fail;go_roundw
     case rel => exact ⟨i + 1,ds.set (i + k) o,by go_num,by omega,hdn.out,by have:=hw.put (o:=0) rfl (k:=i + k) (d:=o) (u:=(o:Int)) (by have:=hdl.out; have:=HN.out; omega) rfl; rwa [Nat.zero_add] at this,hB.setCell (by simp) _⟩
     case measure => simp [intOf]; omega
  ·
   obtain rfl:i = n1:=by omega
   obtain ⟨hdl,hdd,hU,_⟩:=HO.out;have hr:=HW.out.reads (o:=0) rfl;have HU:Hid (U ds = U xs * U ys):=qz (by rw [hU,U_take_all xs _ (by have:=HL1.out; omega)]);have HDL:=qz hdl;clear hU hdl;go_wp2_with fail;refine (shorten_any _ ds N N _ HDL.out hr hdd (by omega) (Nat.le_refl _)).mono ?_;rintro e w2 ⟨m,hm,rfl,hcan,hU2,rfl⟩;have HC:=qz hcan
   have HU2:=qz (hU2.trans HU.out);clear hcan hU2;go_wp2_with fail;go_ret;exact ⟨_,rfl,⟨_,ds.take m,m,N,rfl,by have:=HDL.out; simp; omega,hm,hr.take m,fun _ => ⟨_,_,rfl,Nat.le_refl _⟩,HC.out,HU2.out⟩,hB⟩
end
end Go.Proofs.YtkdmnlihpebbkaaGreat
