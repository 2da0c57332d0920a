import Derived.Test.YtkdmnlihpebbkaaGreatCK13
set_option linter.all false
set_option maxHeartbeats 4000000
namespace Go.Proofs.YtkdmnlihpebbkaaGreat
section
open Go.RowKit
set_option maxRecDepth 100000
def qr18 (x:Rat):Nat × Nat:=(x.num.toNat,x.den)
theorem qr18_rt {x:Rat} (h:0<=x):Rt (qr18 x)/\vq18 (qr18 x) = x:=by
 have hn:0<=x.num:=Rat.num_nonneg.2 h;have he:((x.num.toNat:Nat):Int) = x.num:=by omega
 refine ⟨⟨x.den_pos,?_⟩,?_⟩
 ·
  have h1:=x.reduced;unfold Nat.Coprime at h1;rw [show (qr18 x).1 = x.num.natAbs by show x.num.toNat = x.num.natAbs; omega];exact h1
 ·
  show ((x.num.toNat:Nat):Rat) / ((x.den:Nat):Rat) = x;have h2:((x.num.toNat:Nat):Rat) = ((x.num:Int):Rat):=by rw [<- Rat.intCast_natCast,he]
  rw [h2,<- Rat.mkRat_eq_div];exact Rat.mkRat_self x
theorem vq18_nonneg (q:Nat × Nat):0<=vq18 q:=by
 unfold vq18;have h1:(0:Rat)<=(q.1:Rat):=by exact_mod_cast Nat.zero_le _
 by_cases h:q.2 = 0
 ·
  rw [h,show ((0:Nat):Rat) = 0 by simp,Rat.div_def,Rat.inv_zero]
  grind
 ·
  have h2:(0:Rat) < (q.2:Rat):=by exact_mod_cast Nat.pos_of_ne_zero h
  exact rat18_div _ _ h1 h2
theorem qr18_of {q:Nat × Nat} {x:Rat} (hq:Rt q) (h:vq18 q = x):q = qr18 x:=by
 have h0:0<=x:=by rw [<- h]; exact vq18_nonneg q
 have h1:=qr18_rt h0;exact vq18_ext hq h1.1 (h.trans h1.2.symm)
theorem qr18_nat (n:Nat):qr18 (n:Rat) = (n,1):=(qr18_of (rt18_nat n).1 (rt18_nat n).2).symm
theorem qr18_zero:qr18 0 = (0,1):=by
 have h:=qr18_nat 0;simpa using h
theorem qr18_div {n d:Nat} (hd:0 < d):(n / Nat.gcd n d,d / Nat.gcd n d) = qr18 ((n:Rat) / (d:Rat)):=qr18_of (rt18_of hd).1 (rt18_of hd).2
theorem qr18_addR {x y:Rat} (hx:0<=x) (hy:0<=y):addR (qr18 x) (qr18 y) = qr18 (x + y):=by
 have h1:=qr18_rt hx;have h2:=qr18_rt hy;have h:=vq18_add h1.1 h2.1;exact qr18_of h.1 (by rw [h.2,h1.2,h2.2])
theorem qr18_mulR {x y:Rat} (hx:0<=x) (hy:0<=y):mulR (qr18 x) (qr18 y) = qr18 (x * y):=by
 have h1:=qr18_rt hx;have h2:=qr18_rt hy;have h:=vq18_mul h1.1 h2.1;exact qr18_of h.1 (by rw [h.2,h1.2,h2.2])
theorem qr18_addQ {x y:Rat} (hx:0<=x) (hy:0<=y):addQ (qr18 x) (qr18 y) = qr18 (x + y):=by rw [addQ_eq (qr18_rt hx).1 (qr18_rt hy).1,qr18_addR hx hy]
theorem qr18_mulQ {x y:Rat} (hx:0<=x) (hy:0<=y):mulQ (qr18 x) (qr18 y) = qr18 (x * y):=by rw [mulQ_eq (qr18_rt hx).1 (qr18_rt hy).1,qr18_mulR hx hy]
def lsum18:List Rat->Rat
 | [] => 0
 | x :: r => x + lsum18 r
theorem lsum18_app (l r:List Rat):lsum18 (l ++ r) = lsum18 l + lsum18 r:=by
 induction l with
 | nil => rw [List.nil_append,lsum18]; grind
 | cons q l ih => rw [List.cons_append,lsum18,lsum18,ih]; grind
theorem qr18_fold {l:List Rat} (h:∀ x,x∈l->0<=x):∀ {s:Rat},0<=s->(l.map qr18).foldl addQ (qr18 s) = qr18 (s + lsum18 l):=by
 induction l with
 | nil =>
  intro s _;rw [List.map_nil,List.foldl_nil,lsum18]
  congr 1
  grind
 | cons x r ih =>
  intro s hs;have hx:=h x (by simp);rw [List.map_cons,List.foldl_cons,qr18_addQ hs hx,ih (fun y hy => h y (by simp [hy])) (show 0<=s + x by grind),lsum18]
  congr 1
  grind
theorem qr18_sum {l:List Rat} (h:∀ x,x∈l->0<=x):(l.map qr18).foldl addQ (0,1) = qr18 (lsum18 l):=by
 rw [<- qr18_zero,qr18_fold h Rat.le_refl]
 congr 1
 grind
theorem qr18_mul2 {x y:Rat} (hx:0<=x) (hy:0<=y):[qr18 x,qr18 y].foldl mulQ (1,1) = qr18 (x * y):=by
 have h1:=qr18_nat 1;have h0:(0:Rat)<=1:=by decide
 rw [List.foldl_cons,List.foldl_cons,List.foldl_nil,<- h1];rw [show ((1:Nat):Rat) = 1 by simp,qr18_mulQ h0 hx,qr18_mulQ (by grind) hy]
 congr 1
 grind
def tsum18 (f:Nat->Rat) (l:List Nat):Nat->Rat
 | 0 => 0
 | i + 1 => tsum18 f l i + f (nth l i)
theorem tsum18_low {f:Nat->Rat} {l r:List Nat}:∀ {i:Nat},i<=l.length->tsum18 f (l ++ r) i = tsum18 f l i
 | 0,_ => rfl
 | i + 1,h => by rw [tsum18,tsum18,tsum18_low (by omega),nth15_low (by omega)]
theorem tsum18_tks {S:Sv14} (f:Nat->Rat) (p:Tk14->Bool):∀ n,tsum18 f (tks15 S p n) (tks15 S p n).length = sumR (fun k => if (gt14 S.T k).u = true/\p (gt14 S.T k) = true then f k else 0) n
 | 0 => rfl
 | n + 1 => by
  have ih:=tsum18_tks (S:=S) f p n;rw [tks17_next,sumR];by_cases h:((gt14 S.T n).u && p (gt14 S.T n)) = true
  ·
   rw [if_pos h,List.length_append,List.length_singleton,tsum18,tsum18_low (Nat.le_refl _),nth15_at rfl,ih];rw [Bool.and_eq_true] at h;rw [if_pos h]
  ·
   rw [if_neg h,List.append_nil,ih];rw [Bool.and_eq_true] at h;rw [if_neg h]
   grind
theorem tsum18_part {P:Nat} {f:Nat->Rat} {l:List Nat} (h:∀ k,Prt18 P (f k)):∀ i,Prt18 P (tsum18 f l i)
 | 0 => Prt18.zero P
 | i + 1 => by rw [tsum18]; exact (tsum18_part h i).add (h _)
theorem tsum18_nonneg {f:Nat->Rat} {l:List Nat} (h:∀ k,0<=f k):∀ i,0<=tsum18 f l i
 | 0 => Rat.le_refl
 | i + 1 => by
  have h1:=tsum18_nonneg (l:=l) h i;have h2:=h (nth l i);rw [tsum18]
  grind
theorem tsum18_le {f:Nat->Rat} {l:List Nat} {x:Rat} (h:∀ k,f k<=x):∀ i:Nat,tsum18 f l i<=(i:Rat) * x
 | 0 => by rw [tsum18]; simp
 | i + 1 => by
  have h1:=tsum18_le (l:=l) h i;have h2:=h (nth l i);rw [tsum18,show ((i + 1:Nat):Rat) = (i:Rat) + 1 by push_cast; rfl]
  grind
theorem Wo18.coin_list {S:Sv14} {wC wT:Nat->Rat} (h:Wo18 S wC wT) {c:Nat} (h0:c≠0):wC c = tsum18 wT (tks15 S (fnd15 2 (c:Int)) S.T.length) (tks15 S (fnd15 2 (c:Int)) S.T.length).length:=by
 rw [tsum18_tks,h.c c,if_neg h0];refine sumR_congr (fun k _ => ?_);unfold fnd15;simp only [decide_eq_true_iff]
theorem th18_list {S:Sv14} {wT:Nat->Rat} (i:Nat):th18 S wT i = tsum18 wT (tks15 S (fnd15 1 (i:Int)) S.T.length) (tks15 S (fnd15 1 (i:Int)) S.T.length).length:=by
 rw [tsum18_tks];refine sumR_congr (fun k _ => ?_);unfold fnd15;simp only [decide_eq_true_iff]
theorem Wo18.fits {S:Sv14} {wC wT:Nat->Rat} (h:Wo18 S wC wT) (hf:Fine14 S) :
  (∀ c,(qr18 (wC c)).1 < 4294967296 ^ 18/\(qr18 (wC c)).2 < 4294967296 ^ 18)/\(∀ k,(qr18 (wT k)).1 < 4294967296 ^ 18/\(qr18 (wT k)).2 < 4294967296 ^ 18)/\∀ (l:List Nat) (i:Nat),i<=100->(qr18 (tsum18 wT l i)).1 < 4294967296 ^ 18/\(qr18 (tsum18 wT l i)).2 < 4294967296 ^ 18:=by
 obtain ⟨hc,ht⟩:=h.small hf;obtain ⟨X,hX⟩:∃ X:Rat,((96 ^ 16 * 134217728:Nat):Rat) = X:=⟨_,rfl⟩
 have hX0:(0:Rat)<=X:=by rw [<- hX]; exact_mod_cast Nat.zero_le _
 refine ⟨fun c => ?_,fun k => ?_,fun l i hi => ?_⟩
 ·
  have h1:=qr18_rt (hc c).2.1;refine fit18 hf h1.1 h1.2 (hc c).1 1 (by omega) ?_;have:=(hc c).2.2;rw [hX] at this ⊢;simp
  grind
 ·
  have h1:=qr18_rt (ht k).2.1;refine fit18 hf h1.1 h1.2 (ht k).1 1 (by omega) ?_;have:=(ht k).2.2;rw [hX] at this ⊢;simp
  grind
 ·
  have h1:=qr18_rt (tsum18_nonneg (l:=l) (fun k => (ht k).2.1) i);exact fit18 hf h1.1 h1.2 (tsum18_part (fun k => (ht k).1) i) i hi (tsum18_le (fun k => (ht k).2.2) i)
def Sm18 (q:Nat × Nat):Prop:=q.1 < 4294967296 ^ 18/\q.2 < 4294967296 ^ 18
theorem sm18_one:Sm18 (0,1):=⟨by decide,by decide⟩
theorem Wo18.tk {S:Sv14} {wC wT:Nat->Rat} (h:Wo18 S wC wT) (hT:Tickets14 S) {j c na:Nat} (hn:cntb17 S j = true) (hc:(gt14 S.T j).c = (c:Int)) (ha:(gt14 S.T j).a = (na:Int)) :
  0 < amn17 S (c:Int)/\wT j = (na:Rat) / (amn17 S (c:Int):Rat) * wC c:=by
 have hA:=amn17_int hT (c:Int);have hp:0 < amt17 S (c:Int) S.T.length:=(amt17_all hT (c:Int)).2 ⟨j,hc,cntb17_yes.1 hn⟩;have hp2:0 < amn17 S (c:Int):=by omega
 have e1:((na:Int):Rat) = (na:Rat):=rfl;have e2:((amt17 S (c:Int) S.T.length:Int):Rat) = (amn17 S (c:Int):Rat):=by rw [<- hA]; rfl
 refine ⟨hp2,?_⟩;have hne:(amn17 S (c:Int):Rat)≠0:=nz18 hp2;rw [h.t,if_pos hn,ha,hc,Int.toNat_natCast,e2,e1];by_cases h0:(c:Int) = 0
 ·
  rw [if_pos h0];obtain rfl:c = 0:=by omega
  rw [h.c 0,if_pos rfl];have e3:((amt17 S 0 S.T.length:Int):Rat) = (amn17 S ((0:Nat):Int):Rat):=e2;rw [e3]
  grind
 · rw [if_neg h0]
noncomputable def adq18 (S:Sv14) (wT:Nat->Rat) (l:List Nat) (qt:Nat->Nat × Nat):Nat->Nat->Nat × Nat
 | 0 => qt
 | i + 1 => if cntb17 S (nth l i) = true then upd (adq18 S wT l qt i) (nth l i) (qr18 (wT (nth l i))) else adq18 S wT l qt i
theorem adq18_end {S:Sv14} {wT:Nat->Rat} {l:List Nat} {qt:Nat->Nat × Nat}:∀ {i:Nat},i<=l.length->∀ y,adq18 S wT l qt i y = if y∈l.take i/\cntb17 S y = true then qr18 (wT y) else qt y
 | 0,_,y => by rw [adq18,if_neg (by simp)]
 | i + 1,h,y => by
  have ih:=fun z => adq18_end (S:=S) (wT:=wT) (qt:=qt) (show i<=l.length by omega) z
  rw [adq18,take15_next (by omega)];split
  ·
   next hc =>
   by_cases e:y = nth l i
   · rw [e,upd_at,if_pos ⟨by simp,hc⟩]
   ·
    rw [upd_far _ _ e,ih];by_cases hm:y∈l.take i
    ·
     by_cases hb:cntb17 S y = true
     · rw [if_pos ⟨hm,hb⟩,if_pos ⟨by simp [hm],hb⟩]
     · rw [if_neg (fun h => hb h.2),if_neg (fun h => hb h.2)]
    ·
     rw [if_neg (fun h => hm h.1),if_neg (fun h => by
      rcases List.mem_append.1 h.1 with h | h
      · exact hm h
      · exact e (by simpa using h))]
  ·
   next hc =>
   rw [ih];by_cases hb:cntb17 S y = true
   ·
    by_cases hm:y∈l.take i
    · rw [if_pos ⟨hm,hb⟩,if_pos ⟨by simp [hm],hb⟩]
    ·
     rw [if_neg (fun h => hm h.1),if_neg (fun h => by
      rcases List.mem_append.1 h.1 with h | h
      · exact hm h
      · exact hc (by rw [<- show y = nth l i by simpa using h]; exact hb))]
   · rw [if_neg (fun h => hb h.2),if_neg (fun h => hb h.2)]
def Lw18 (S:Sv14) (wC wT:Nat->Rat) (ns:List Nat) (d:Nat) (qc qt:Nat->Nat × Nat):Prop :=
 (∀ x,qc x = if x∈ns.take d then qr18 (wC x) else (0,1))/\∀ j,qt j = if (gt14 S.T j).c.toNat∈ns.take d/\cntb17 S j = true then qr18 (wT j) else (0,1)
theorem lw18_start (S:Sv14) (wC wT:Nat->Rat) (ns:List Nat):Lw18 S wC wT ns 0 (fun _ => (0,1)) (fun _ => (0,1)):=⟨fun x => by rw [if_neg (by simp)],fun j => by rw [if_neg (by simp)]⟩
theorem Lw18.sm {S:Sv14} {wC wT:Nat->Rat} {ns:List Nat} {d:Nat} {qc qt:Nat->Nat × Nat} (h:Lw18 S wC wT ns d qc qt) (hc:∀ c,Sm18 (qr18 (wC c))) (ht:∀ k,Sm18 (qr18 (wT k))):(∀ x,Sm18 (qc x))/\∀ j,Sm18 (qt j):=by
 refine ⟨fun x => ?_,fun j => ?_⟩
 ·
  rw [h.1];split
  · exact hc x
  · exact sm18_one
 ·
  rw [h.2];split
  · exact ht j
  · exact sm18_one
theorem Lw18.pre {S:Sv14} {wC wT:Nat->Rat} {os:List Nat} {d:Nat} {qc qt:Nat->Nat × Nat} (hw:Wo18 S wC wT) (hT:Tickets14 S) (hd:Told13 (Ca15 S) S.C.length os) (hdl:d < (ord15 S os).length) (h:Lw18 S wC wT (ord15 S os) d qc qt) {c:Nat} (hc:nth (ord15 S os) d = c) {j:Nat} (hj:j∈bck15 S (c:Int)):j < S.T.length/\qt j = qr18 (wT j):=by
 have hu:us14 usC S.C (c:Int) = true:=by rw [<- hc]; exact ord15_used hdl
 have hb:=(bck15_mem hu).1 hj;refine ⟨hb.1,?_⟩;rw [h.2];by_cases hn:cntb17 S j = true
 ·
  have huf:=(hT j hb.1 hb.2.1).1;have hin:=us15_lt huf;have hcin:=us15_lt hu;have hcf:(((gt14 S.T j).c.toNat:Nat):Int) = (gt14 S.T j).c:=by omega
  have hm:(gt14 S.T j).c.toNat∈(ord15 S os).take d:=by
   refine told15_pre hd (fun x => us14 usC S.C (x:Int)) d hdl _ (ca15_mem.2 ⟨⟨j,?_,hcf.symm⟩,by omega,?_⟩) (by rw [hcf]; exact huf)
   ·
    show Bck15 S (nth (ord15 S os) d) j;rw [hc];exact hb
   ·
    show nth (ord15 S os) d < S.C.length;rw [hc];omega
  rw [if_pos ⟨hm,hn⟩]
 · rw [if_neg (fun h => hn h.2),hw.none (fun h => hn (cntb17_yes.2 h)),qr18_zero]
theorem Lw18.next {S:Sv14} {wC wT:Nat->Rat} {os:List Nat} {d:Nat} {qc qt:Nat->Nat × Nat} (hT:Tickets14 S) (hdl:d < (ord15 S os).length) (h:Lw18 S wC wT (ord15 S os) d qc qt) {c:Nat} (hc:nth (ord15 S os) d = c) :
  Lw18 S wC wT (ord15 S os) (d + 1) (upd qc c (qr18 (wC c))) (adq18 S wT (isd15 S (c:Int)) qt (isd15 S (c:Int)).length):=by
 have hu:us14 usC S.C (c:Int) = true:=by rw [<- hc]; exact ord15_used hdl
 refine ⟨fun x => ?_,fun j => ?_⟩
 ·
  rw [take15_next hdl,hc];by_cases e:x = c
  · rw [e,upd_at,if_pos (by simp)]
  ·
   rw [upd_far _ _ e,h.1];by_cases hm:x∈(ord15 S os).take d
   · rw [if_pos hm,if_pos (by simp [hm])]
   · rw [if_neg hm,if_neg (by simp [hm,e])]
 ·
  rw [adq18_end (Nat.le_refl _),List.take_length,take15_next hdl,hc,h.2];by_cases hn:cntb17 S j = true
  ·
   have hl:=(cntb17_yes.1 hn).lt;have hin:=us15_lt (hT j hl.1 hl.2).1;by_cases e:(gt14 S.T j).c = (c:Int)
   · rw [if_pos ⟨(isd17_mem hu).2 ⟨hl.1,hl.2,e⟩,hn⟩,if_pos ⟨by rw [e]; simp,hn⟩]
   ·
    rw [if_neg (fun g => e ((isd17_mem hu).1 g.1).2.2)];by_cases hm:(gt14 S.T j).c.toNat∈(ord15 S os).take d
    · rw [if_pos ⟨hm,hn⟩,if_pos ⟨by simp [hm],hn⟩]
    ·
     rw [if_neg (fun g => hm g.1),if_neg (fun g => by
      rcases List.mem_append.1 g.1 with g | g
      · exact hm g
      ·
       have:(gt14 S.T j).c.toNat = c:=by simpa using g
       omega)]
  · rw [if_neg (fun g => hn g.2),if_neg (fun g => hn g.2),if_neg (fun g => hn g.2)]
theorem Wo18.unused {S:Sv14} {wC wT:Nat->Rat} (h:Wo18 S wC wT) (hf:Fine14 S) {c:Nat} (hu:us14 usC S.C (c:Int) = false):wC c = 0:=by
 have hT:=hf.2.2.2.2.1;rw [h.c];rw [if_neg (fun e => by rw [e,show us14 usC S.C ((0:Nat):Int) = us14 usC S.C 0 from rfl,hf.2.2.2.1] at hu; cases hu)];refine sumR_all (fun k hk => ?_);split
 ·
  next h1 =>
  rcases (hT k hk h1.1).2.2.2 with h4 | h4 | h4
  · rw [h1.2.1] at h4; exact absurd h4.1 (by decide)
  · rw [h1.2.1] at h4; exact absurd h4.1 (by decide)
  · rw [h1.2.2,hu] at h4; exact absurd h4.2.2 (by decide)
 · rfl
theorem Lw18.end_ {S:Sv14} {wC wT:Nat->Rat} {os:List Nat} {qc qt:Nat->Nat × Nat} (hw:Wo18 S wC wT) (hf:Fine14 S) (hd:Told13 (Ca15 S) S.C.length os) (hl:os.length = S.C.length) (h:Lw18 S wC wT (ord15 S os) (ord15 S os).length qc qt):(∀ x,qc x = qr18 (wC x))/\∀ j,qt j = qr18 (wT j):=by
 have hT:=hf.2.2.2.2.1;refine ⟨fun x => ?_,fun j => ?_⟩
 ·
  rw [h.1,List.take_length];split
  · rfl
  ·
   next hm =>
   have hu:us14 usC S.C (x:Int) = false:=by
    cases hu:us14 usC S.C (x:Int) with
    | false => rfl
    | true => exact absurd ((ord17_in hd hl).2 hu) hm
   rw [hw.unused hf hu,qr18_zero]
 ·
  rw [h.2,List.take_length];by_cases hn:cntb17 S j = true
  ·
   have hlt:=(cntb17_yes.1 hn).lt;have hu:=(hT j hlt.1 hlt.2).1;have hin:=us15_lt hu;rw [if_pos ⟨(ord17_in hd hl).2 (by rw [show (((gt14 S.T j).c.toNat:Nat):Int) = (gt14 S.T j).c by omega]; exact hu),hn⟩]
  · rw [if_neg (fun g => hn g.2),hw.none (fun h => hn (cntb17_yes.2 h)),qr18_zero]
theorem Wo18.coin_bck {S:Sv14} {wC wT:Nat->Rat} (h:Wo18 S wC wT) {c:Nat} (h0:c≠0) (hu:us14 usC S.C (c:Int) = true):wC c = tsum18 wT (bck15 S (c:Int)) (bck15 S (c:Int)).length:=by
 rw [h.coin_list h0];unfold bck15;rw [if_pos hu]
theorem th18_ofs {S:Sv14} {wT:Nat->Rat} (hT:Tickets14 S) (i:Nat):th18 S wT i = tsum18 wT (ofs15 S (i:Int)) (ofs15 S (i:Int)).length:=by
 cases hu:us14 usH S.H (i:Int) with
 | true =>
  rw [th18_list];unfold ofs15
  rw [if_pos hu]
 | false =>
  unfold ofs15;rw [if_neg (by rw [hu]; decide)];refine sumR_all (fun k hk => ?_);split
  ·
   next h1 =>
   rcases (hT k hk h1.1).2.2.2 with h4 | h4 | h4
   · rw [h1.2.1] at h4; exact absurd h4.1 (by decide)
   · rw [h1.2.2,hu] at h4; exact absurd h4.2 (by decide)
   · rw [h1.2.1] at h4; exact absurd h4.1 (by decide)
  · rfl
theorem int4_b (n:Nat) (w:World) (hn:n < 18446744073709551616):Calls Tryz.prog 10 #[.int .u64 (n:Int)] w (RetDB w n 1):=by
 have hb:=b1 w (.cells #[.slice none 0 0,.slice none 0 0] 35);have hbk:=qbox w;obtain ⟨W0,hW0⟩:=exq (w.alloc (.cells #[.slice none 0 0,.slice none 0 0] 35));rw [hW0] at hb hbk;have HBK:=qz hbk;clear hbk;go_enter Tryz.func10,Tryz.ntmps10;go_wp2_with fail;refine (of_word n W0 hn).mono ?_;rintro e w1 ⟨v1,rfl,hv1,hb1⟩;obtain ⟨A1,n1,c1,rfl⟩:=hv1.shape
 have H1:=qz hv1;clear hv1;go_wp2_with fail;refine (of_one w1).mono ?_;rintro e w2 ⟨v2,rfl,hv2,hb2⟩;obtain ⟨A2,n2,c2,rfl⟩:=hv2.shape;have hB3:=hb1.trans (hb2.mono hb1.size);have hbk3:=HBK.out.below hB3 HBK.out.lt;have k0:w2.cell? ⟨w.heap.size,0,none⟩ = some (.slice none 0 0):=hbk3.cell 0
 have k1:w2.cell? ⟨w.heap.size,1,none⟩ = some (.slice none 0 0):=hbk3.cell 1;have f0:=hbk3.frozen 0;have f1:=hbk3.frozen 1;have HX:=qz (num_lower (H1.out.below hb2) hb.size);have HY:=qz (num_lower hv2 (Nat.le_trans hb.size hb1.size));have HBK3:=qz hbk3;have hBw:=hb.trans (hB3.mono hb.size);clear hv2 hbk3 hb2 hb1 hW0;go_wp2_with fail
 have hp:=put_Q HBK3.out (.slice A1 n1 c1) (.slice A2 n2 c2);have k1':(w2.setCell ⟨w.heap.size,0,none⟩ (.slice A1 n1 c1)).cell? ⟨w.heap.size,1,none⟩ = some (.slice none 0 0):=(World.cell?_setCell_other _ _ _ _ (by intro e; injection e; omega)).trans k1
 exact bodyPost_ret (v:=.agg #[.slice A1 n1 c1,.slice A2 n2 c2]) (by simp [results,Tryz.results10,go_sem,hp.cell 0,hp.cell 1]) rfl
  ⟨_,_,_,_,_,_,rfl,⟨_,Nat.le_refl _,(HX.out.setSi k0).setSi k1'⟩,⟨_,Nat.le_refl _,(HY.out.setSi k0).setSi k1'⟩,(hBw.setCell (Nat.le_refl _) _).setCell (Nat.le_refl _) _⟩
theorem us14_in {α:Type} [Inhabited α] {us:α->Bool} (hus:us default = false) {xs:List α} {i:Int} (h:us14 us xs i = true):∃ q:Nat,i = (q:Int)/\q < xs.length/\us (gt14 xs q) = true/\at14 us xs i = gt14 xs q:=by
 have h0:0<=i/\i < (xs.length:Int):=Classical.byContradiction (fun hn => by rw [us14_off hus hn] at h; cases h);obtain ⟨q,rfl⟩:∃ q:Nat,i = (q:Int):=⟨i.toNat,by omega⟩
 have hu:us (gt14 xs q) = true:=by have h2:=h; rwa [us14_nat] at h2
 exact ⟨q,rfl,by omega,hu,at14_nat hu⟩
theorem ris14 (v:Value) (S:Sv14) (i st wh:Int) (b:Bool) (w:World) (h:St14 w v S) (hbt:b = true↔us14 usH S.H i = true/\(at14 usH S.H i).s = st/\(at14 usH S.H i).f = wh) :
  Calls Tryz.prog 46 #[v,.int .i64 i,.int .i64 st,.int .i64 wh] w fun e w' => e = .returned (.bool b)/\Below w.heap.size w w':=by
 obtain ⟨A0,A1,A2,A3,A4,n0,n1,n2,n3,n4,c0,c1,c2,c3,c4,sq,rfl,hs⟩:=h;have HX0:=qz (Bx14.new hs);obtain ⟨W1,hW1⟩:=exq (w.alloc (.cells #[.slice A0 n0 c0,.slice A1 n1 c1,.slice A2 n2 c2,.slice A3 n3 c3,.slice A4 n4 c4,.int .i64 sq] 28));rw [hW1] at HX0;obtain ⟨q0,q1,q2,q3,q4,q5⟩:=ce6 HX0.out.x;obtain ⟨bu,hbu⟩:=exq (us14 usH S.H i)
 have HTH:=qz (rThread14 _ S i bu W1 HX0.out.st hbu)
 cases bu with
 | false =>
  obtain rfl:b = false:=bool14_of hbt (fun h => by have:=h.1; rw [hbu] at this; cases this);clear hbt hbu hs;go_enter Tryz.func46,Tryz.ntmps46;go_wp2_with fail;refine HTH.out.mono ?_;rintro e u ⟨rfl,hb⟩;have HB2:=qz (HX0.out.step hb).b;clear HTH hb;go_wp2_with fail;go_ret
  exact ⟨rfl,HB2.out⟩
 | true =>
  obtain ⟨q,rfl,hq,_,hat⟩:=us14_in def14H hbu;rw [hat] at hbt;obtain ⟨x,hx⟩:=exq (gt14 S.H q);rw [hx] at hbt;obtain ⟨xz,xf,xc,xq,xu⟩:=x;have hb2:b = true↔xz = st/\xf = wh:=by rw [hbt]; simp [hbu]
  have HE:Hid (b = (xz == st && xf == wh)):=qz (by rw [Bool.eq_iff_iff,hb2]; simp);have HQ:=qz hq;have HXE:=qz hx;have hqn:q < n2:=by rw [<- hs.l2]; exact hq
  clear hbt hbu hat hb2 hx hq hs;go_enter Tryz.func46,Tryz.ntmps46;go_wp2_with fail;refine HTH.out.mono ?_;rintro e u ⟨rfl,hb⟩;have HX2:=qz (HX0.out.step hb);have hB2:=HX2.out.b;have HB2:=qz hB2;obtain ⟨a,of,hA,hab,hq⟩:=Lq.at_ len14H (by omega) HX2.out.s.r2 HQ.out;subst hA;rw [HXE.out] at hq
  have e0:u.cell? ⟨a,of + q * 5,none⟩ = some (.int .i64 xz):=hq 0 _ rfl;have e1:u.cell? ⟨a,of + q * 5 + 1,none⟩ = some (.int .i64 xf):=hq 1 _ rfl;have i0:(0:Int)<=(q:Int):=by omega
  have i1:(q:Int) < (n2:Int):=by omega
  have y2:=HX2.out.x.cell 2;clear HTH hb hB2 hq hab;by_cases hz:xz = st
  ·
   subst hz;go_wp2_with fail;go_ret;exact ⟨by rw [HE.out]; simp,HB2.out⟩
  ·
   have HF:Hid ((xz == st) = false):=qz (by simpa using hz);go_wp2_with fail;go_ret;exact ⟨by rw [HE.out,HF.out]; first | rfl | (show Ending.returned (Value.bool (xz == st)) = _; rw [HF.out]; rfl),HB2.out⟩
theorem rqueues14 (v:Value) (S:Sv14) (k:Nat) (xz xf xc xq xu:Int) (b:Bool) (w:World) (h:St14 w v S) (hk:k < S.H.length) (hx:gt14 S.H k = ⟨xz,xf,xc,xq,xu⟩) (hok:xz = 4->us14 usH S.H xf = true) (hbt:b = true↔Queues14 S k ⟨xz,xf,xc,xq,xu⟩) :
  Calls Tryz.prog 47 #[v,.int .i64 (k:Int)] w fun e w' => e = .returned (.bool b)/\Below w.heap.size w w':=by
 obtain ⟨A0,A1,A2,A3,A4,n0,n1,n2,n3,n4,c0,c1,c2,c3,c4,sq,rfl,hs⟩:=h;rw [hs.l2] at hk;have hb:Below w.heap.size w (w.alloc (.cells #[.slice A0 n0 c0,.slice A1 n1 c1,.slice A2 n2 c2,.slice A3 n3 c3,.slice A4 n4 c4,.int .i64 sq] 28)):=(b1' w _)
 have hk0:Blk (w.alloc (.cells #[.slice A0 n0 c0,.slice A1 n1 c1,.slice A2 n2 c2,.slice A3 n3 c3,.slice A4 n4 c4,.int .i64 sq] 28)) (w.heap.size) 28 #[.slice A0 n0 c0,.slice A1 n1 c1,.slice A2 n2 c2,.slice A3 n3 c3,.slice A4 n4 c4,.int .i64 sq]:=by
  have h:=(Blk.new w 28 #[.slice A0 n0 c0,.slice A1 n1 c1,.slice A2 n2 c2,.slice A3 n3 c3,.slice A4 n4 c4,.int .i64 sq])
  exact h
 have hs0:=hs.step hb;have hz0:(w.alloc (.cells #[.slice A0 n0 c0,.slice A1 n1 c1,.slice A2 n2 c2,.slice A3 n3 c3,.slice A4 n4 c4,.int .i64 sq] 28)).heap.size = w.heap.size + 1:=by simp
 obtain ⟨W0,hW0⟩:=exq ((w.alloc (.cells #[.slice A0 n0 c0,.slice A1 n1 c1,.slice A2 n2 c2,.slice A3 n3 c3,.slice A4 n4 c4,.int .i64 sq] 28)));rw [hW0] at hb hs0 hz0 hk0;have hkl:k < S.H.length:=by rw [hs0.l2]; exact hk
 obtain ⟨a,of,hA,hab,hq⟩:=Lq.at_ len14H (by omega) hs0.r2 hkl;subst hA;rw [hx] at hq;have e0:W0.cell? ⟨a,of + k * 5,none⟩ = some (.int .i64 xz):=hq 0 _ rfl;have e1:W0.cell? ⟨a,of + k * 5 + 1,none⟩ = some (.int .i64 xf):=hq 1 _ rfl;have e2:W0.cell? ⟨a,of + k * 5 + 2,none⟩ = some (.int .i64 xc):=hq 2 _ rfl
 have e3:W0.cell? ⟨a,of + k * 5 + 3,none⟩ = some (.int .i64 xq):=hq 3 _ rfl;have e4:W0.cell? ⟨a,of + k * 5 + 4,none⟩ = some (.int .i64 xu):=hq 4 _ rfl;have i0:(0:Int)<=(k:Int):=by omega
 have i1:(k:Int) < (n2:Int):=by omega
 have q2:=hk0.cell 2;have hb2:=hb.alloc hb.size (.cells #[.int .i64 xz,.int .i64 xf,.int .i64 xc,.int .i64 xq,.int .i64 xu] 60);have hkx:=Blk.new W0 60 #[.int .i64 xz,.int .i64 xf,.int .i64 xc,.int .i64 xq,.int .i64 xu];obtain ⟨f0,f1,f2,f3,f4⟩:=ce5 hkx;have hkb:=hk0.alloc (.cells #[.int .i64 xz,.int .i64 xf,.int .i64 xc,.int .i64 xq,.int .i64 xu] 60)
 have p2:=hkb.cell 2;have HS:=qz (hs0.step (b1' W0 (.cells #[.int .i64 xz,.int .i64 xf,.int .i64 xc,.int .i64 xq,.int .i64 xu] 60)));have HB2:=qz hb2;by_cases z4:xz = 4
 ·
  subst z4;obtain ⟨q,rfl,hql,_,hat⟩:=us14_in def14H (hok rfl);obtain ⟨y,hy⟩:=exq (gt14 S.H q);obtain ⟨yz,yf,yc,yq,yu⟩:=y;have HE:Hid (b = (yc != (k:Int))):=qz (by rw [Bool.eq_iff_iff,hbt]; simp [Queues14,hat,hy]);obtain ⟨a2,of2,hA2,_,hq2⟩:=Lq.at_ len14H (by omega) HS.out.r2 hql;injection hA2 with hA2
  injection hA2 with ha2 ho2
  subst ha2 ho2;rw [hy] at hq2;have g2:(W0.alloc (.cells #[.int .i64 4,.int .i64 (q:Int),.int .i64 xc,.int .i64 xq,.int .i64 xu] 60)).cell? ⟨a,of + q * 5 + 2,none⟩ = some (.int .i64 yc):=hq2 2 _ rfl;have j0:(0:Int)<=(q:Int):=by omega
  have j1:(q:Int) < (n2:Int):=by rw [HS.out.l2] at hql; omega
  clear hs hs0 hb hb2 hk0 hkb hkx hq hx hkl hz0 hbt hok hat hy hq2 hab hql;go_enter Tryz.func47,Tryz.ntmps47;go_wp2_with fail;go_ret;exact ⟨by rw [HE.out]; rfl,HB2.out⟩
 ·
  have HE:Hid (b = (xz == 6)):=qz (by rw [Bool.eq_iff_iff,hbt]; simp [Queues14,z4]);clear hs hs0 hb hb2 hk0 hkb hkx hq hx hkl hz0 hbt hok hab;go_enter Tryz.func47,Tryz.ntmps47;go_wp2_with fail;go_ret;exact ⟨by rw [HE.out]; rfl,HB2.out⟩
theorem info14B:(Tryz.prog.info? 74).map (fun i => (i.zero,i.size,i.bytes)) = some (some (.agg #[.int .i64 0,.int .i64 0]),2,16):=by kernel_rfl
structure Br14 (w:World) (S:Sv14) (A0 A1 A2 A3 A4:Option Addr) (n0 n1 n2 n3 n4 c0 c1 c2 c3 c4:Nat) (sq:Int) (A:Option Addr) (m c:Nat) (l:List (Int × Int)) (W:World):Prop where
 b:Bx14 w S A0 A1 A2 A3 A4 n0 n1 n2 n3 n4 c0 c1 c2 c3 c4 sq W
 o:W.ownsRow (w.heap.size + 1) 74 2 (.slice A m c) m (acs l)
 l:l.length = m
theorem Br14.step {w:World} {S:Sv14} {A0 A1 A2 A3 A4:Option Addr} {n0 n1 n2 n3 n4 c0 c1 c2 c3 c4:Nat} {sq:Int} {A:Option Addr} {m c:Nat} {l:List (Int × Int)} {W W':World} (h:Br14 w S A0 A1 A2 A3 A4 n0 n1 n2 n3 n4 c0 c1 c2 c3 c4 sq A m c l W) (hb:Below W.heap.size W W'):Br14 w S A0 A1 A2 A3 A4 n0 n1 n2 n3 n4 c0 c1 c2 c3 c4 sq A m c l W' :=
 ⟨h.b.step hb,own12_keep2 h.o hb,h.l⟩
theorem Br14.congr {w:World} {S:Sv14} {A0 A1 A2 A3 A4:Option Addr} {n0 n1 n2 n3 n4 c0 c1 c2 c3 c4:Nat} {sq:Int} {A:Option Addr} {m c:Nat} {l l2:List (Int × Int)} {W:World} (h:Br14 w S A0 A1 A2 A3 A4 n0 n1 n2 n3 n4 c0 c1 c2 c3 c4 sq A m c l W) (e:l = l2):Br14 w S A0 A1 A2 A3 A4 n0 n1 n2 n3 n4 c0 c1 c2 c3 c4 sq A m c l2 W:=e ▸ h
theorem Br14.push {w:World} {S:Sv14} {A0 A1 A2 A3 A4:Option Addr} {n0 n1 n2 n3 n4 c0 c1 c2 c3 c4:Nat} {sq:Int} {A:Option Addr} {m c:Nat} {l:List (Int × Int)} {W:World} (hs:SA14 w S A0 A1 A2 A3 A4 n0 n1 n2 n3 n4 c0 c1 c2 c3 c4 sq) (h:Br14 w S A0 A1 A2 A3 A4 n0 n1 n2 n3 n4 c0 c1 c2 c3 c4 sq A m c l W) (x y:Int) (hm:m<=2000) :
  ∃ Az cz W2,(Builtin.append_ #[57,57] 57 #[.slice A m c,.slice (some ⟨W.heap.size,0,none⟩) 1 1]).run Tryz.prog (W.alloc (.cells #[.int .i64 x,.int .i64 y] 74)) = .ok (.slice Az (m + 1) cz) W2/\Br14 w S A0 A1 A2 A3 A4 n0 n1 n2 n3 n4 c0 c1 c2 c3 c4 sq Az (m + 1) cz (l ++ [(x,y)]) W2/\(∀ g t cs,Blk W g t cs->t≠74->Blk W2 g t cs):=by
 have hbz:=b1' W (.cells #[.int .i64 x,.int .i64 y] 74);have hkz:=Blk.new W 74 #[.int .i64 x,.int .i64 y];have h1:=h.step hbz;have hsy:(W.alloc (.cells #[.int .i64 x,.int .i64 y] 74)).heap.size = W.heap.size + 1:=by simp
 have hkeep:∀ g t cs,Blk W g t cs->Blk (W.alloc (.cells #[.int .i64 x,.int .i64 y] 74)) g t cs:=fun g t cs hg => hg.alloc _
 obtain ⟨Y,hY⟩:=exq (W.alloc (.cells #[.int .i64 x,.int .i64 y] 74));rw [hY] at hbz hkz h1 hsy hkeep ⊢;have hrv:Rv Y Y.heap.size (some ⟨W.heap.size,0,none⟩) [.int .i64 x,.int .i64 y]:=fun _ => ⟨W.heap.size,0,rfl,by omega,fun j v hj => by rw [Nat.zero_add,hkz.cell]; simpa using hj⟩
 have hxl:=h1.b.x.lt;obtain ⟨Az,cz,W2,hrun,hown,hg⟩:=run_append_14 (P:=Tryz.prog) Y (w.heap.size + 1) 57 57 74 _ 2 16 Tryz.underlying57 info14B rfl (by omega) (by omega) _ m _ h1.o Y.heap.size (some ⟨W.heap.size,0,none⟩) [.int .i64 x,.int .i64 y] 1 1 rfl hrv (by simp [Value.oneCell']) (by omega) (by omega)
 have hB:Below w.heap.size w W2:=h1.b.b.grown hg h1.b.b.size (fun r hr => by have:=(h1.o.lt r hr).1; omega);refine ⟨Az,cz,W2,hrun,⟨⟨hB,h1.b.x.grown hg (fun e => by have:=(h1.o.lt _ e.symm).1; omega),hs.step hB⟩,?_,by simp [h.l]⟩,fun g t cs hb hne => (hkeep g t cs hb).grown hg (own14_blk h1.o (hkeep g t cs hb) hne)⟩;rw [acs_append];exact hown
theorem rcoinArrows14 (v:Value) (S:Sv14) (w:World) (h:St14 w v S):Calls Tryz.prog 27 #[v] w (RetAq14 w (cArr14 S S.T.length)):=by
 obtain ⟨A0,A1,A2,A3,A4,n0,n1,n2,n3,n4,c0,c1,c2,c3,c4,sq,rfl,hs⟩:=h;have HP:Hid (RetAq14 w (cArr14 S S.T.length) = fun e w' => ∃ A c,e = .returned (.slice A (cArr14 S n1).length c)/\Aq w' w'.heap.size A (cArr14 S n1)/\Below w.heap.size w w'):=qz (by rw [hs.l1]; rfl)
 have HX0:Hid (Br14 w S A0 A1 A2 A3 A4 n0 n1 n2 n3 n4 c0 c1 c2 c3 c4 sq none 0 0 (cArr14 S 0) (w.alloc (.cells #[.slice A0 n0 c0,.slice A1 n1 c1,.slice A2 n2 c2,.slice A3 n3 c3,.slice A4 n4 c4,.int .i64 sq] 28))):=qz ⟨Bx14.new hs,World.ownsRow_nil _ _ _ _,rfl⟩;have HS:=qz hs;have hnb:=hs.m1;clear hs;go_enter Tryz.func27,Tryz.ntmps27;go_wp2_with fail
 go_loopw [3,4] (fun v i wr => ∃ (k:Nat) (A:Option Addr) (m c:Nat),v = .slice A m c/\i = .int .i64 (k:Int)/\k<=n1/\Hid (Br14 w S A0 A1 A2 A3 A4 n0 n1 n2 n3 n4 c0 c1 c2 c3 c4 sq A m c (cArr14 S k) wr)) (fun _ i _ => n1 - (intOf i).toNat)
 case atStart => exact ⟨0,none,0,0,rfl,rfl,by omega,HX0⟩
 case round =>
  obtain ⟨k,A,m,c,rfl,rfl,hk,HW⟩:=hrel;have t0_:=HW.out.b.x.cell 1;by_cases hkn:k < n1
  ·
   skip;obtain ⟨a,of,hA,hab,hq⟩:=Lq.at_ len14T (by omega) HW.out.b.s.r1 (show k < S.T.length by rw [HW.out.b.s.l1]; omega);have HAE:=qz hA;obtain ⟨x,hx⟩:=exq (gt14 S.T k);rw [hx] at hq;obtain ⟨xu,xc,xa,xk,xt,xo⟩:=x;have e0:wr.cell? ⟨a,of + k * 6,none⟩ = some (.bool xu):=hq 0 _ rfl;have e1:wr.cell? ⟨a,of + k * 6 + 1,none⟩ = some (.int .i64 xc):=hq 1 _ rfl
   have e2:wr.cell? ⟨a,of + k * 6 + 2,none⟩ = some (.int .i64 xa):=hq 2 _ rfl;have e3:wr.cell? ⟨a,of + k * 6 + 3,none⟩ = some (.int .i64 xk):=hq 3 _ rfl;have e4:wr.cell? ⟨a,of + k * 6 + 4,none⟩ = some (.int .i64 xt):=hq 4 _ rfl;have e5:wr.cell? ⟨a,of + k * 6 + 5,none⟩ = some (.bool xo):=hq 5 _ rfl;have i0:(0:Int)<=(k:Int):=by omega
   have i1:(k:Int) < (n1:Int):=by omega
   have HV:=qz (Br14.step HW.out (b1' wr (.cells #[.bool xu,.int .i64 xc,.int .i64 xa,.int .i64 xk,.int .i64 xt,.bool xo] 55)));have hv:=Blk.new wr 55 #[.bool xu,.int .i64 xc,.int .i64 xa,.int .i64 xk,.int .i64 xt,.bool xo];obtain ⟨v0,v1,v2,v3,v4,v5⟩:=ce6 hv;have HVB:=qz hv;have HXE:=qz hx;obtain ⟨p0,p1,p2,p3,p4,p5⟩:=ce6 HV.out.b.x
   obtain ⟨X,hX⟩:=exq (wr.alloc (.cells #[.bool xu,.int .i64 xc,.int .i64 xa,.int .i64 xk,.int .i64 xt,.bool xo] 55));rw [hX] at HV HVB v0 v1 v2 v3 v4 v5 p0 p1 p2 p3 p4 p5;clear hv hq hx hab;subst hA;have hmk:m<=k:=by rw [<- HW.out.l]; exact cArr14_len S k
   cases xu with
   | false =>
    have HN:=qz (HV.out.congr (l2:=cArr14 S (k + 1)) (by rw [cArr14,HXE.out,if_neg (by simp),List.append_nil]));go_wp2_with fail;go_roundw
    case rel => exact ⟨k + 1,A,m,c,rfl,by go_num,by omega,HN⟩
    case measure => simp [intOf]; omega
   | true =>
    by_cases k2:xk = 2
    ·
     subst k2;have HE:Hid (cArr14 S (k + 1) = cArr14 S k ++ [(xc,xt)]):=qz (by rw [cArr14,HXE.out,if_pos (by simp)]);obtain ⟨Az,cz,W2,hrun,har,hkp⟩:=HV.out.push HS.out xc xt (by omega);have vz:=(hkp _ _ _ HVB.out (by decide)).cell 0;clear hkp;have HRUN:=qz hrun;have HAR:=qz (har.congr HE.out.symm);clear hrun har
     go_wp2_with (at_builtin; go_loud (refine wpList_append_14 _ rfl (.tmp 25) (.tmp 31) 57 rfl _ _ _ _ rfl rfl HRUN.out ?_));go_roundw
     case rel => exact ⟨k + 1,Az,m + 1,cz,rfl,by go_num,by omega,HAR⟩
     case measure => simp [intOf]; omega
    ·
     have HN:=qz (HV.out.congr (l2:=cArr14 S (k + 1)) (by rw [cArr14,HXE.out,if_neg (by simp [k2]),List.append_nil]));go_wp2_with fail;go_roundw
     case rel => exact ⟨k + 1,A,m,c,rfl,by go_num,by omega,HN⟩
     case measure => simp [intOf]; omega
  ·
   obtain rfl:k = n1:=by omega
   have HL:=qz HW.out.l;have h1:¬ (k:Int) < (k:Int):=by omega
   go_wp2_with fail;go_ret;rw [HP.out];exact ⟨A,c,by rw [HL.out]; rfl,aq14_own HW.out.o,HW.out.b.b⟩
theorem rthreadArrows14 (v:Value) (S:Sv14) (w:World) (h:St14 w v S) (hok:∀ j,j < S.H.length->(gt14 S.H j).s = 6->us14 usL S.L (gt14 S.H j).f = true):Calls Tryz.prog 28 #[v] w (RetAq14 w (tArr14 S S.H.length)):=by
 obtain ⟨A0,A1,A2,A3,A4,n0,n1,n2,n3,n4,c0,c1,c2,c3,c4,sq,rfl,hs⟩:=h;have HP:Hid (RetAq14 w (tArr14 S S.H.length) = fun e w' => ∃ A c,e = .returned (.slice A (tArr14 S n2).length c)/\Aq w' w'.heap.size A (tArr14 S n2)/\Below w.heap.size w w'):=qz (by rw [hs.l2]; rfl)
 have HX0:Hid (Br14 w S A0 A1 A2 A3 A4 n0 n1 n2 n3 n4 c0 c1 c2 c3 c4 sq none 0 0 (tArr14 S 0) (w.alloc (.cells #[.slice A0 n0 c0,.slice A1 n1 c1,.slice A2 n2 c2,.slice A3 n3 c3,.slice A4 n4 c4,.int .i64 sq] 28))):=qz ⟨Bx14.new hs,World.ownsRow_nil _ _ _ _,rfl⟩;have HS:=qz hs;have hnb:=hs.m2;have HOK:=qz hok;have HLH:=qz hs.l2;clear hs
 go_enter Tryz.func28,Tryz.ntmps28;go_wp2_with fail;go_loopw [3,4] (fun v i wr => ∃ (k:Nat) (A:Option Addr) (m c:Nat),v = .slice A m c/\i = .int .i64 (k:Int)/\k<=n2/\Hid (Br14 w S A0 A1 A2 A3 A4 n0 n1 n2 n3 n4 c0 c1 c2 c3 c4 sq A m c (tArr14 S k) wr)) (fun _ i _ => n2 - (intOf i).toNat)
 case atStart => exact ⟨0,none,0,0,rfl,rfl,by omega,HX0⟩
 case round =>
  obtain ⟨k,A,m,c,rfl,rfl,hk,HW⟩:=hrel;have t0_:=HW.out.b.x.cell 2;by_cases hkn:k < n2
  ·
   skip;obtain ⟨a,of,hA,hab,hq⟩:=Lq.at_ len14H (by omega) HW.out.b.s.r2 (show k < S.H.length by rw [HW.out.b.s.l2]; omega);have HAE:=qz hA;obtain ⟨x,hx⟩:=exq (gt14 S.H k);rw [hx] at hq;obtain ⟨xz,xf,xc,xq,xu⟩:=x;have e0:wr.cell? ⟨a,of + k * 5,none⟩ = some (.int .i64 xz):=hq 0 _ rfl;have e1:wr.cell? ⟨a,of + k * 5 + 1,none⟩ = some (.int .i64 xf):=hq 1 _ rfl
   have e2:wr.cell? ⟨a,of + k * 5 + 2,none⟩ = some (.int .i64 xc):=hq 2 _ rfl;have e3:wr.cell? ⟨a,of + k * 5 + 3,none⟩ = some (.int .i64 xq):=hq 3 _ rfl;have e4:wr.cell? ⟨a,of + k * 5 + 4,none⟩ = some (.int .i64 xu):=hq 4 _ rfl;have i0:(0:Int)<=(k:Int):=by omega
   have i1:(k:Int) < (n2:Int):=by omega
   have HV:=qz (Br14.step HW.out (b1' wr (.cells #[.int .i64 xz,.int .i64 xf,.int .i64 xc,.int .i64 xq,.int .i64 xu] 60)));have hv:=Blk.new wr 60 #[.int .i64 xz,.int .i64 xf,.int .i64 xc,.int .i64 xq,.int .i64 xu];obtain ⟨v0,v1,v2,v3,v4⟩:=ce5 hv;have HVB:=qz hv;have HXE:=qz hx;obtain ⟨p0,p1,p2,p3,p4,p5⟩:=ce6 HV.out.b.x
   obtain ⟨X,hX⟩:=exq (wr.alloc (.cells #[.int .i64 xz,.int .i64 xf,.int .i64 xc,.int .i64 xq,.int .i64 xu] 60));rw [hX] at HV HVB v0 v1 v2 v3 v4 p0 p1 p2 p3 p4 p5;clear hv hq hx hab;subst hA;have hmk:m<=k:=by rw [<- HW.out.l]; exact tArr14_len S k
   by_cases z4:xz = 4
   ·
    subst z4;have HE:Hid (tArr14 S (k + 1) = tArr14 S k ++ [((k:Int),xf)]):=qz (by rw [tArr14,HXE.out,if_pos rfl]);obtain ⟨Az,cz,W2,hrun,har,hkp⟩:=HV.out.push HS.out (k:Int) xf (by omega);have vz:=(hkp _ _ _ HVB.out (by decide)).cell 0;clear hkp;have HRUN:=qz hrun;have HAR:=qz (har.congr HE.out.symm);clear hrun har
    go_wp2_with (at_builtin; go_loud (refine wpList_append_14 _ rfl (.tmp 21) (.tmp 26) 57 rfl _ _ _ _ rfl rfl HRUN.out ?_));go_roundw
    case rel => exact ⟨k + 1,Az,m + 1,cz,rfl,by go_num,by omega,HAR⟩
    case measure => simp [intOf]; omega
   ·
    by_cases z6:xz = 6
    ·
     subst z6;obtain ⟨q,hxq,hql,_,hat⟩:=us14_in def14L (by have h:=HOK.out k (by rw [HLH.out]; exact hkn) (by rw [HXE.out]); rwa [HXE.out] at h:us14 usL S.L xf = true);subst hxq;obtain ⟨y,hy⟩:=exq (gt14 S.L q);obtain ⟨yu,yh⟩:=y;have HE:Hid (tArr14 S (k + 1) = tArr14 S k ++ [((k:Int),yh)]):=qz (by rw [tArr14,HXE.out,if_neg (by simp),if_pos rfl,hat,hy])
     obtain ⟨a3,of3,hA3,_,hq3⟩:=Lq.at_ len14L (by omega) HV.out.b.s.r3 hql;subst hA3;rw [hy] at hq3;have g1:X.cell? ⟨a3,of3 + q * 2 + 1,none⟩ = some (.int .i64 yh):=hq3 1 _ rfl;have j0:(0:Int)<=(q:Int):=by omega
     have j1:(q:Int) < (n3:Int):=by rw [HV.out.b.s.l3] at hql; omega
     clear hat hy hq3 hql;obtain ⟨Az,cz,W2,hrun,har,hkp⟩:=HV.out.push HS.out (k:Int) yh (by omega);have vz:=(hkp _ _ _ HVB.out (by decide)).cell 0;clear hkp;have HRUN:=qz hrun;have HAR:=qz (har.congr HE.out.symm);clear hrun har;go_wp2_with (at_builtin; go_loud (refine wpList_append_14 _ rfl (.tmp 31) (.tmp 41) 57 rfl _ _ _ _ rfl rfl HRUN.out ?_))
     go_roundw
     case rel => exact ⟨k + 1,Az,m + 1,cz,rfl,by go_num,by omega,HAR⟩
     case measure => simp [intOf]; omega
    ·
     have HN:=qz (HV.out.congr (l2:=tArr14 S (k + 1)) (by rw [tArr14,HXE.out,if_neg z4,if_neg z6,List.append_nil]));go_wp2_with fail;go_roundw
     case rel => exact ⟨k + 1,A,m,c,rfl,by go_num,by omega,HN⟩
     case measure => simp [intOf]; omega
  ·
   obtain rfl:k = n2:=by omega
   have HL:=qz HW.out.l;have h1:¬ (k:Int) < (k:Int):=by omega
   go_wp2_with fail;go_ret;rw [HP.out];exact ⟨A,c,by rw [HL.out]; rfl,aq14_own HW.out.o,HW.out.b.b⟩
theorem fine16_lock {S:Sv14} (hf:Fine14 S):∀ j,j < S.H.length->(gt14 S.H j).s = 6->us14 usL S.L (gt14 S.H j).f = true:=by
 intro j hj h6;have hth:=(hf.2.2.2.2.2.1.1 j hj (by rw [usH,h6]; rfl)).1;rcases hth with h | h | h
 · rw [h.1] at h6; cases h6
 · exact h.2
 · have:=h.1; omega
theorem arr16_mem {l:List (Int × Int)} {k:Nat} (hk:k < l.length):arr l k∈l:=by
 have e:arr l k = l[k]:=by simp [arr,List.getElem?_eq_getElem hk]
 rw [e];exact List.getElem_mem hk
theorem fnx16 {S:Sv14} {k:Nat} {i:Int} (hk:k < (tArr14 S S.H.length).length) (h:(arr (tArr14 S S.H.length) k).1 = i):(arr (tArr14 S S.H.length) k).2 = nxt16 S i:=by
 have h1:(i,(arr (tArr14 S S.H.length) k).2)∈tArr14 S S.H.length:=by
  rw [<- h];exact arr16_mem hk
 obtain ⟨j,hj,rfl,_⟩:=tarr16_mem.1 h1;exact ((nxt16_arr hj).1 h1).2.symm
theorem fnx16_no {S:Sv14} {i:Int} (hf:Fine14 S) (h:∀ k,k < (tArr14 S S.H.length).length->(arr (tArr14 S S.H.length) k).1≠i):nxt16 S i = -1:=by
 rcases nxt16_used hf i with h1 | ⟨h1,h2⟩
 · exact h1
 ·
  exfalso
  have hu:us14 usH S.H i = true:=by
   cases hu:us14 usH S.H i with
   | true => rfl
   | false => rw [nxt16_no hu,tl16_neg] at h1; cases h1
  have hin:=ush16_lt hu;obtain ⟨q,rfl⟩:∃ q:Nat,i = (q:Int):=⟨i.toNat,by omega⟩
  rw [at14_yes hu,Int.toNat_natCast] at h2;have hm:((q:Int),nxt16 S (q:Int))∈tArr14 S S.H.length:=(nxt16_arr (by omega)).2 ⟨h2,rfl⟩;obtain ⟨k,hk,he⟩:=List.getElem_of_mem hm;refine h k hk ?_;have e:arr (tArr14 S S.H.length) k = (tArr14 S S.H.length)[k]:=by simp [arr,List.getElem?_eq_getElem hk]
  rw [e,he]
theorem rnext16 (v:Value) (S:Sv14) (i:Int) (w:World) (h:St14 w v S) (hf:Fine14 S) :
  Calls Tryz.prog 20 #[v,.int .i64 i] w fun e w' => e = .returned (.int .i64 (nxt16 S i))/\Below w.heap.size w w':=by
 obtain ⟨A0,A1,A2,A3,A4,n0,n1,n2,n3,n4,c0,c1,c2,c3,c4,sq,rfl,hs⟩:=h;have hx0:=Bx14.new hs;have hxn:=hx0.step (Below.refl _ _).drew;obtain ⟨W1,hW1⟩:=exq (w.alloc (.cells #[.slice A0 n0 c0,.slice A1 n1 c1,.slice A2 n2 c2,.slice A3 n3 c3,.slice A4 n4 c4,.int .i64 sq] 28));rw [hW1] at hx0 hxn;have HX0:=qz hx0;obtain ⟨p0,p1,p2,p3,p4,p5⟩:=ce6 hx0.x
 obtain ⟨m,hm⟩:=exq ((tArr14 S S.H.length).length);have hmn:m<=1000000:=by have:=tArr14_len S S.H.length; have:=hs.l2; have:=hs.m2; omega
 have HT:=qz (fun W h => rthreadArrows14 (.agg #[.slice A0 n0 c0,.slice A1 n1 c1,.slice A2 n2 c2,.slice A3 n3 c3,.slice A4 n4 c4,.int .i64 sq]) S W h (fine16_lock hf));have HF:=qz hf;have HM:=qz hm;clear hs hx0 hxn hf hm;go_enter Tryz.func20,Tryz.ntmps20;go_wp2_with fail;refine (HT.out _ HX0.out.st).mono ?_;rintro e u1 ⟨A,c,rfl,hr,hb1⟩;have HR:=qz hr
 have HB1:=qz (HX0.out.b.trans (hb1.mono HX0.out.b.size));rw [HM.out];clear hb1 HT HX0 p0 p1 p2 p3 p4 p5 hW1 hr;go_wp2_with fail;go_loopw [6] (fun v wr => ∃ k:Nat,v = .int .i64 (k:Int)/\k<=m/\Hid (∀ q,q < k->(arr (tArr14 S S.H.length) q).1≠i)/\Hid (Below u1.heap.size u1 wr)) (fun v _ => m - (intOf v).toNat)
 case atStart => exact ⟨0,rfl,by omega,qz (fun q h => by omega),qz (Below.refl _ _)⟩
 case round =>
  obtain ⟨k,rfl,hk,HN,HG⟩:=hrel;by_cases hkm:k < m
  ·
   obtain ⟨ba,o,hA,hab,c0,c1⟩:=Aq.at_ (Rv.below HR.out HG.out (Nat.le_refl _)) (show k < (tArr14 S S.H.length).length by rw [HM.out]; exact hkm);subst hA;obtain ⟨fi,hfi⟩:=exq ((arr (tArr14 S S.H.length) k).1);obtain ⟨ti,hti⟩:=exq ((arr (tArr14 S S.H.length) k).2);have HI:=qz hfi;have HJ:=qz hti;rw [hfi] at c0;rw [hti] at c1
   have i0:(0:Int)<=(k:Int):=by omega
   have i1:(k:Int) < (m:Int):=by omega
   clear hfi hti hab;by_cases hi:fi = i
   ·
    have hib:(fi == i) = true:=by simp [hi]
    have HE:Hid (nxt16 S i = ti):=qz (by rw [<- HJ.out]; exact (fnx16 (by rw [HM.out]; exact hkm) (by rw [HI.out]; exact hi)).symm);clear hi;go_wp2_with fail;go_ret;exact ⟨by rw [HE.out]; rfl,HB1.out.trans (HG.out.mono HB1.out.size)⟩
   ·
    have hib:(fi == i) = false:=by simp [hi]
    have HNI:=qz hi;clear hi;go_wp2_with fail;go_roundw
    case rel => exact ⟨k + 1,by go_num,by omega,qz (fun q hq => by
     rcases (show q < k\/q = k by omega) with h5 | h5
     · exact HN.out q h5
     · rw [h5,HI.out]; exact HNI.out),HG⟩
    case measure => simp [intOf]; omega
  ·
   obtain rfl:k = m:=by omega
   have i1:¬ (k:Int) < (k:Int):=by omega
   have HE:Hid (nxt16 S i = -1):=qz (fnx16_no HF.out (by rw [HM.out]; exact HN.out));go_wp2_with fail;go_ret;exact ⟨by rw [HE.out]; rfl,HB1.out.trans (HG.out.mono HB1.out.size)⟩
theorem one16_own (W:World) (L:Nat) (x:Nat) (hL:L<=W.heap.size):(W.alloc (.cells #[.int .i64 (x:Int)] 3)).ownsRow L 3 1 (.slice (some ⟨W.heap.size,0,none⟩) 1 1) 1 (ints [x]) :=
 ⟨by simp [ints],.inr ⟨W.heap.size,1,#[.int .i64 (x:Int)],rfl,hL,heap_alloc_new W _,by omega,by decide,by simp,by simp [ints]⟩⟩
theorem rtail16 (l:List Nat):∀ (v:Value) (S:Sv14) (i:Int) (w:World) (_:St14 w v S) (_:Fine14 S) (_:Tl16 S i l),
  Calls Tryz.prog 98 #[v,.int .i64 i] w (RetR15 w l):=by
 induction l with
 | nil =>
  intro v S i w h hf hl;obtain ⟨A0,A1,A2,A3,A4,n0,n1,n2,n3,n4,c0,c1,c2,c3,c4,sq,rfl,hs⟩:=h;have hx0:=Bx14.new hs;have hxn:=hx0.step (Below.refl _ _).drew;obtain ⟨W1,hW1⟩:=exq (w.alloc (.cells #[.slice A0 n0 c0,.slice A1 n1 c1,.slice A2 n2 c2,.slice A3 n3 c3,.slice A4 n4 c4,.int .i64 sq] 28));rw [hW1] at hx0 hxn
  have HP:Hid (RetR15 w [] = fun e w' => ∃ A c,e = .returned (.slice A 0 c)/\Rd w' w'.heap.size A []/\Below w.heap.size w w'):=qz rfl;have HX0:=qz hx0;obtain ⟨p0,p1,p2,p3,p4,p5⟩:=ce6 hx0.x;have HU:=qz (fun W h => rThread14 (.agg #[.slice A0 n0 c0,.slice A1 n1 c1,.slice A2 n2 c2,.slice A3 n3 c3,.slice A4 n4 c4,.int .i64 sq]) S i false W h (hl.nil.1 rfl))
  clear hs hx0 hxn hf hl;go_enter Tryz.func98,Tryz.ntmps98;go_wp2_with fail;refine (HU.out _ HX0.out.st).mono ?_;rintro e u1 ⟨rfl,hb1⟩;have HB1:=qz (HX0.out.b.trans (hb1.mono HX0.out.b.size));clear hb1 HU HX0 p0 p1 p2 p3 p4 p5 hW1;go_wp2_with fail;go_ret;rw [HP.out]
  exact ⟨none,0,rfl,fun hx => absurd rfl hx,HB1.out⟩
 | cons k r ih =>
  intro v S i w h hf hl;obtain ⟨A0,A1,A2,A3,A4,n0,n1,n2,n3,n4,c0,c1,c2,c3,c4,sq,rfl,hs⟩:=h;have hx0:=Bx14.new hs;have hxn:=hx0.step (Below.refl _ _).drew;obtain ⟨W1,hW1⟩:=exq (w.alloc (.cells #[.slice A0 n0 c0,.slice A1 n1 c1,.slice A2 n2 c2,.slice A3 n3 c3,.slice A4 n4 c4,.int .i64 sq] 28));rw [hW1] at hx0 hxn
  have HP:Hid (RetR15 w (k :: r) = fun e w' => ∃ A c,e = .returned (.slice A (r.length + 1) c)/\Rd w' w'.heap.size A (k :: r)/\Below w.heap.size w w'):=qz rfl;have HX0:=qz hx0;obtain ⟨p0,p1,p2,p3,p4,p5⟩:=ce6 hx0.x
  have hu:us14 usH S.H i = true:=by
   cases hu:us14 usH S.H i with
   | true => rfl
   | false => cases hl.no hu
  obtain ⟨k2,r2,hik,he,ht⟩:=hl.cons hf hu;injection he with hk hr
  subst hk hr hik;have HU:=qz (fun W h => rThread14 (.agg #[.slice A0 n0 c0,.slice A1 n1 c1,.slice A2 n2 c2,.slice A3 n3 c3,.slice A4 n4 c4,.int .i64 sq]) S (k:Int) true W h hu);have HN:=qz (fun W h => rnext16 (.agg #[.slice A0 n0 c0,.slice A1 n1 c1,.slice A2 n2 c2,.slice A3 n3 c3,.slice A4 n4 c4,.int .i64 sq]) S (k:Int) W h hf)
  have HI:=qz (fun W h => ih (.agg #[.slice A0 n0 c0,.slice A1 n1 c1,.slice A2 n2 c2,.slice A3 n3 c3,.slice A4 n4 c4,.int .i64 sq]) S (nxt16 S (k:Int)) W h hf ht);have HLN:Hid (r.length<=1000):=qz (by have:=hl.len hf; have:=hs.l2; have:=hs.m2; simp at *; omega);have HT:=qz ht;have hnu:=nxt16_used hf (k:Int);clear hs hx0 hxn hf hl ih hu ht
  go_enter Tryz.func98,Tryz.ntmps98;go_wp2_with fail;refine (HU.out _ HX0.out.st).mono ?_;rintro e u1 ⟨rfl,hb1⟩;have HX1:=qz (HX0.out.step hb1);obtain ⟨q0,q1,q2,q3,q4,q5⟩:=ce6 HX1.out.x;clear hb1 HU HX0 p0 p1 p2 p3 p4 p5 hW1;go_wp2_with fail;refine (HN.out _ HX1.out.st).mono ?_;rintro e u2 ⟨rfl,hb2⟩;have HX2:=qz (HX1.out.step hb2)
  obtain ⟨y0,y1,y2,y3,y4,y5⟩:=ce6 HX2.out.x;clear hb2 HN HX1 q0 q1 q2 q3 q4 q5;obtain ⟨nx,hnx⟩:=exq (nxt16 S (k:Int));rw [hnx] at HT HI hnu ⊢;clear hnx;rcases hnu with h0 | h0
  ·
   subst h0;have HE:Hid (r = []):=qz (HT.out.no (tl16_neg S));have hb3:=b1' u2 (.cells #[.int .i64 (k:Int)] 3);have HR:Hid (Rd (u2.alloc (.cells #[.int .i64 (k:Int)] 3)) (u2.alloc (.cells #[.int .i64 (k:Int)] 3)).heap.size (some ⟨u2.heap.size,0,none⟩) [k]):=qz (rd15_own (one16_own u2 0 k (by omega)) rfl)
   have HB3:=qz (HX2.out.b.trans (hb3.mono HX2.out.b.size));clear hb3;go_wp2_with fail;go_ret;rw [HP.out,HE.out];exact ⟨_,1,rfl,HR.out,HB3.out⟩
  ·
   have hge:0<=nx:=(ush16_lt h0.1).1;have hlt:¬ nx < 0:=by omega
   have hb3:=b1' u2 (.cells #[.int .i64 (k:Int)] 3);have HX3:=qz (HX2.out.step hb3);have HO:=qz (one16_own u2 (w.heap.size + 1) k (by have:=HX2.out.x.lt; omega));obtain ⟨z0,z1,z2,z3,z4,z5⟩:=ce6 HX3.out.x;obtain ⟨g,hg⟩:=exq u2.heap.size;obtain ⟨u3,hu3⟩:=exq (u2.alloc (.cells #[.int .i64 (k:Int)] 3));rw [hu3] at HX3 HO z0 z1 z2 z3 z4 z5;rw [hg] at HO
   clear h0 hge hb3 y0 y1 y2 y3 y4 y5;go_wp2_with fail;refine (HI.out _ HX3.out.st).mono ?_;rintro e u4 ⟨A,c,rfl,hr,hb4⟩;have HX4:=qz (HX3.out.step hb4);have ho4:=own7_keep HO.out hb4;have hsz:=HX4.out.x.lt
   obtain ⟨Az,cz,W2,hrun,hown,hgr⟩:=run_append_14 (P:=Tryz.prog) u4 (w.heap.size + 1) 26 26 3 _ 1 8 Tryz.underlying26 info_int11 rfl (by omega) (by omega) _ 1 _ ho4 u4.heap.size A (ints r) r.length c (by simp [ints]) hr.rv11 (ints_one r) (by have:=HLN.out; omega) (by omega)
   have hW2:Below (w.heap.size + 1) u4 W2:=(Below.refl _ _).grown hgr (by omega) (fun q hq => (ho4.lt q hq).1);have HB2:=qz (HX4.out.b.trans (hW2.mono (by omega)));rw [Nat.add_comm 1 r.length] at hrun hown;rw [<- ints_append,List.singleton_append] at hown;have HRD:=qz (rd15_own hown (by simp));have HRUN:=qz hrun
   clear hb4 HI hr ho4 hsz hrun hown hgr hW2 HX3 HX4 HO z0 z1 z2 z3 z4 z5;go_wp2_with (at_builtin; go_loud (refine wpList_append_14 _ rfl (.tmp 18) (.tmp 21) 26 rfl _ _ _ _ rfl rfl HRUN.out ?_));go_ret;rw [HP.out];exact ⟨Az,cz,rfl,HRD.out,HB2.out⟩
theorem rend16 (v:Value) (S:Sv14) (i:Int) (l:List Nat) (w:World) (h:St14 w v S) (hf:Fine14 S) (hl:Tl16 S i l) :
  Calls Tryz.prog 82 #[v,.int .i64 i] w fun e w' => e = .returned (.int .i64 (en16 l))/\Below w.heap.size w w':=by
 obtain ⟨A0,A1,A2,A3,A4,n0,n1,n2,n3,n4,c0,c1,c2,c3,c4,sq,rfl,hs⟩:=h;have hx0:=Bx14.new hs;have hxn:=hx0.step (Below.refl _ _).drew;obtain ⟨W1,hW1⟩:=exq (w.alloc (.cells #[.slice A0 n0 c0,.slice A1 n1 c1,.slice A2 n2 c2,.slice A3 n3 c3,.slice A4 n4 c4,.int .i64 sq] 28));rw [hW1] at hx0 hxn;have HX0:=qz hx0;obtain ⟨p0,p1,p2,p3,p4,p5⟩:=ce6 hx0.x
 have HLN:Hid (l.length<=1000000):=qz (by have:=hl.len hf; have:=hs.l2; have:=hs.m2; omega);have HT:=qz (fun W h => rtail16 l (.agg #[.slice A0 n0 c0,.slice A1 n1 c1,.slice A2 n2 c2,.slice A3 n3 c3,.slice A4 n4 c4,.int .i64 sq]) S i W h hf hl);clear hs hx0 hxn hf hl;go_enter Tryz.func82,Tryz.ntmps82;go_wp2_with fail;refine (HT.out _ HX0.out.st).mono ?_
 rintro e u1 ⟨A,c,rfl,hr,hb1⟩;have HB1:=qz (HX0.out.b.trans (hb1.mono HX0.out.b.size));clear hb1 HT HX0 p0 p1 p2 p3 p4 p5 hW1;by_cases hl0:l = []
 ·
  subst hl0;have HE:Hid (en16 [] = -1):=qz rfl;clear hr;go_wp2_with fail;go_ret;exact ⟨by rw [HE.out]; rfl,HB1.out⟩
 ·
  obtain ⟨d,hd⟩:∃ d,l.length = d + 1:=⟨l.length - 1,by have:=List.length_pos_iff.2 hl0; omega⟩
  obtain ⟨a,of,hA,hab,hq⟩:=hr.at_ (show d < l.length by omega);subst hA;have HE:Hid (en16 l = ((nth l d:Nat):Int)):=qz (by rw [en16,if_neg hl0,lst16,hd]; rfl);have hnz:(((d + 1:Nat):Int) == 0) = false:=by simp; omega
  have hdm:d + 1<=1000000:=by have:=HLN.out; omega
  rw [hd];clear hr hab hd hl0;have i0:(0:Int)<=(d:Int):=by omega
  have i1:(d:Int) < ((d + 1:Nat):Int):=by omega
  have hsb:((d + 1:Nat):Int) - 1 = (d:Int):=by omega
  go_wp2_with fail;go_ret;exact ⟨by rw [HE.out]; rfl,HB1.out⟩
theorem rlives16 (v:Value) (S:Sv14) (i:Int) (l:List Nat) (w:World) (h:St14 w v S) (hf:Fine14 S) (hl:Tl16 S i l) :
  Calls Tryz.prog 60 #[v,.int .i64 i] w fun e w' => e = .returned (.bool (lv16 S (en16 l)))/\Below w.heap.size w w':=by
 obtain ⟨A0,A1,A2,A3,A4,n0,n1,n2,n3,n4,c0,c1,c2,c3,c4,sq,rfl,hs⟩:=h;have hx0:=Bx14.new hs;have hxn:=hx0.step (Below.refl _ _).drew;obtain ⟨W1,hW1⟩:=exq (w.alloc (.cells #[.slice A0 n0 c0,.slice A1 n1 c1,.slice A2 n2 c2,.slice A3 n3 c3,.slice A4 n4 c4,.int .i64 sq] 28));rw [hW1] at hx0 hxn;have HX0:=qz hx0;obtain ⟨p0,p1,p2,p3,p4,p5⟩:=ce6 hx0.x
 have hus:=en16_used hf hl;have HT:=qz (fun W h => rend16 (.agg #[.slice A0 n0 c0,.slice A1 n1 c1,.slice A2 n2 c2,.slice A3 n3 c3,.slice A4 n4 c4,.int .i64 sq]) S i l W h hf hl);obtain ⟨en,hen⟩:=exq (en16 l);rw [hen] at hus HT ⊢;have HL2:=qz hs.l2;have hnm:n2<=1000:=by have:=hs.m2; omega
 have hge:en < 0->en = -1:=by
  intro h
  cases hu:us14 usH S.H i with
  | false => rw [<- hen]; exact en16_no (hl.no hu)
  | true => rw [hu] at hus; have:=ush16_lt hus; omega
 have hu1:0<=en->us14 usH S.H en = true:=by
  intro h
  cases hu:us14 usH S.H i with
  | true => rw [hus,hu]
  | false => rw [<- hen,en16_no (hl.no hu)] at h; omega
 clear hs hx0 hxn hf hl hus hen;go_enter Tryz.func60,Tryz.ntmps60;go_wp2_with fail;refine (HT.out _ HX0.out.st).mono ?_;rintro e u1 ⟨rfl,hb1⟩;have HX1:=qz (HX0.out.step hb1);obtain ⟨q0,q1,q2,q3,q4,q5⟩:=ce6 HX1.out.x;clear hb1 HT HX0 p0 p1 p2 p3 p4 p5 hW1;by_cases h0:0<=en
 ·
  have hu:=hu1 h0;have hin:=ush16_lt hu;obtain ⟨k,rfl⟩:∃ k:Nat,en = (k:Int):=⟨en.toNat,by omega⟩
  obtain ⟨a,of,hA,hab,hq⟩:=Lq.at_ len14H (by omega) HX1.out.s.r2 (show k < S.H.length by omega);subst hA;obtain ⟨x,hx⟩:=exq (gt14 S.H k);rw [hx] at hq;obtain ⟨xz,xf,xc,xq,xu⟩:=x;have e0:u1.cell? ⟨a,of + k * 5,none⟩ = some (.int .i64 xz):=hq 0 _ rfl;have HE:Hid (lv16 S (k:Int) = ((xz == 2) || (xz == 3))):=qz (by rw [lv16,at14_yes hu,Int.toNat_natCast,hx])
  have i1:(k:Int) < (n2:Int):=by have:=HL2.out; omega
  have hgb:decide ((k:Int)≥0) = true:=by simp
  clear hq hx hab hge hu1 hu hin;by_cases z2:xz = 2
  ·
   subst z2;go_wp2_with fail;go_ret;exact ⟨by rw [HE.out]; rfl,HX1.out.b⟩
  ·
   have z2b:(xz == 2) = false:=by simp [z2]
   rw [z2b] at HE;go_wp2_with fail;go_ret;exact ⟨by rw [HE.out]; rfl,HX1.out.b⟩
 ·
  obtain rfl:=hge (by omega);have HE:Hid (lv16 S (-1) = false):=qz (lv16_no (tl16_neg S));clear hge hu1 h0;go_wp2_with fail;go_ret;exact ⟨by rw [HE.out]; rfl,HX1.out.b⟩
end
end Go.Proofs.YtkdmnlihpebbkaaGreat
