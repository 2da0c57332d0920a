import Derived.Test.YtkdmnlihpebbkaaGreatCT8
import Derived.Deep.RegionLaw
import Derived.Deep.CutBlock
import Derived.IntWalk
set_option linter.all false
set_option maxHeartbeats 3200000
namespace Go.Proofs.YtkdmnlihpebbkaaGreat
section
open Go.RowKit
set_option maxRecDepth 100000
noncomputable def wtv18 (S:Sv14) (w:Nat->Rat) (k:Nat):Rat:=if cntb17 S k = true then (if (gt14 S.T k).c = 0 then ((gt14 S.T k).a:Rat) else ((gt14 S.T k).a:Rat) / ((amt17 S (gt14 S.T k).c S.T.length:Int):Rat) * w (gt14 S.T k).c.toNat) else 0
noncomputable def wcv18 (S:Sv14) (w:Nat->Rat) (c:Nat):Rat:=if c = 0 then ((amt17 S 0 S.T.length:Int):Rat) else sumR (fun k => if (gt14 S.T k).u = true/\(gt14 S.T k).k = 2/\(gt14 S.T k).t = (c:Int) then wtv18 S w k else 0) S.T.length
noncomputable def wcf18 (S:Sv14):Nat->Nat->Rat
 | 0,_ => 0
 | d + 1,c => wcv18 S (wcf18 S d) c
theorem wtv18_congr {S:Sv14} {w w':Nat->Rat} {k:Nat} (h:w (gt14 S.T k).c.toNat = w' (gt14 S.T k).c.toNat):wtv18 S w k = wtv18 S w' k:=by
 unfold wtv18;rw [h]
theorem wcv18_congr {S:Sv14} (hf:Fine14 S) {D:Nat->Nat} (hD:Dep13 (Ca15 S) D) {w w':Nat->Rat} {c:Nat} (h:∀ b,D b < D c->w b = w' b):wcv18 S w c = wcv18 S w' c:=by
 unfold wcv18;split
 · rfl
 ·
  refine sumR_congr (fun k hk => ?_);split
  ·
   next h1 =>
   have hT:Tickets14 S:=hf.2.2.2.2.1;have ht:=hT k hk h1.1;have hu:=us15_lt ht.1
   have hto:us14 usC S.C (gt14 S.T k).t = true:=by
    rcases ht.2.2.2 with h4 | h4 | h4
    · rw [h1.2.1] at h4; exact absurd h4.1 (by decide)
    · rw [h1.2.1] at h4; exact absurd h4.1 (by decide)
    · exact h4.2.2
   rw [h1.2.2] at hto;have hc:=us15_lt hto;refine wtv18_congr (h _ ?_);have h2:=hD.up (gt14 S.T k).c.toNat c (ca15_mem.2 ⟨⟨k,⟨hk,h1.1,h1.2.1,h1.2.2⟩,by omega⟩,by omega,by omega⟩);omega
  · rfl
theorem wcf18_more {S:Sv14} (hf:Fine14 S) {D:Nat->Nat} (hD:Dep13 (Ca15 S) D):∀ d c,D c < d->wcf18 S d c = wcf18 S (d + 1) c
 | 0,c,h => by omega
 | d + 1,c,h => by
  rw [wcf18,wcf18];exact wcv18_congr hf hD (fun b hb => wcf18_more hf hD d b (by omega))
theorem wo18_ex {S:Sv14} (hf:Fine14 S):∃ wC wT,Wo18 S wC wT:=by
 obtain ⟨os,hd,hl⟩:Free14R S.C.length (cArr14 S S.T.length):=hf.2.2.2.2.2.2.2.2.1;obtain ⟨D,hD,hn⟩:=dep13_ex (A:=Ca15 S) (in13_cut _ _) hd.1 hl;refine ⟨wcf18 S (S.C.length + 1),wtv18 S (wcf18 S (S.C.length + 1)),fun k => rfl,fun c => ?_⟩;rw [wcf18_more hf hD _ c (by have:=hn c; omega)];rfl
def InC19 (S:Sv14) (x e:Nat):Prop:=x = e\/Way (Ta16 S) x e
open Classical in
noncomputable def inc19 (S:Sv14) (x e:Nat):Bool:=decide (InC19 S x e)
theorem inc19_yes {S:Sv14} {x e:Nat}:inc19 S x e = true↔InC19 S x e:=by
 unfold inc19;exact @decide_eq_true_iff _ (Classical.propDecidable _)
def go19 (S:Sv14) (e:Nat):Prop:=(gt14 S.H e).s = 2\/(gt14 S.H e).s = 3
instance (S:Sv14) (e:Nat):Decidable (go19 S e):=by unfold go19; infer_instance
theorem go19_next {S:Sv14} {e:Nat} (h:go19 S e):nxt16 S (e:Int) = -1:=by
 have hu:us14 usH S.H (e:Int) = true:=by
  rw [us14_nat,usH];rcases h with h | h <;> rw [h] <;> rfl
 rw [nxt16,at14_yes hu,Int.toNat_natCast];rcases h with h | h <;> rw [h] <;> rfl
theorem go19_end {S:Sv14} (hf:Fine14 S) {x e:Nat} {l:List Nat} (hx:x < S.H.length) (hc:Chn16 S x l) (he:go19 S e):InC19 S x e↔e = lst16 l:=by
 have h1:=hc.way hf hx e;constructor
 ·
  intro h;have hm:e∈l:=h1.2 (h.imp Eq.symm id);have h2:=hc.ends hm (.one (go19_next he));rw [<- h2];rfl
 ·
  intro h;rcases h1.1 (by rw [h]; exact hc.end_.2) with h3 | h3
  · exact .inl h3.symm
  · exact .inr h3
noncomputable def car19 (S:Sv14) (w:Nat->Rat) (e:Nat):Rat:=sumR (fun x => if inc19 S x e = true then w x else 0) S.H.length
theorem car19_total {S:Sv14} (hf:Fine14 S) {w:Nat->Rat} (hw:∀ x,x < S.H.length->w x≠0->Liv16 S (x:Int)):sumR (fun e => if go19 S e then car19 S w e else 0) S.H.length = sumR w S.H.length:=by
 have h1:sumR (fun e => if go19 S e then car19 S w e else 0) S.H.length = sumR (fun e => sumR (fun x => if go19 S e/\inc19 S x e = true then w x else 0) S.H.length) S.H.length:=by
  refine sumR_congr (fun e _ => ?_);by_cases h:go19 S e
  ·
   rw [if_pos h];exact sumR_congr (fun x _ => by simp [h])
  ·
   rw [if_neg h];exact (sumR_all (fun x _ => by simp [h])).symm
 rw [h1,sumR_swap];refine sumR_congr (fun x hx => ?_);by_cases hv:w x = 0
 ·
  rw [hv];exact sumR_all (fun e _ => by split <;> rfl)
 ·
  obtain ⟨k,l,h2,h3,h4,h5⟩:=hw x hx hv;obtain rfl:k = x:=by omega
  have hend:lst16 l < S.H.length:=by
   have h6:=ush16_lt (h4.used hf h3 _ h4.end_.2);omega
  have h7:=sumR_one (x:=lst16 l) (w k) S.H.length;rw [if_pos hend] at h7;rw [<- h7];refine sumR_congr (fun e _ => ?_);rw [h7];by_cases he:e = lst16 l
  ·
   have hg:go19 S e:=by rw [he]; exact h5
   rw [if_pos ⟨hg,inc19_yes.2 ((go19_end hf hx h4 hg).2 he)⟩,if_pos he]
  · rw [if_neg (fun h => he ((go19_end hf hx h4 h.1).1 (inc19_yes.1 h.2))),if_neg he]
theorem th18_lives {S:Sv14} {wC wT:Nat->Rat} (h:Wo18 S wC wT) {i:Nat} (hi:th18 S wT i≠0):Liv16 S (i:Int):=by
 refine Classical.byContradiction (fun hn => hi ?_);refine sumR_all (fun k _ => ?_);split
 ·
  next h1 =>
  refine Classical.byContradiction (fun hv => ?_);rcases (cnt17_iff.1 (h.counts hv)).2.2.2 with ⟨_,h3⟩ | ⟨h3,_⟩
  ·
   rw [h1.2.2] at h3;exact hn h3
  ·
   rw [h1.2.1] at h3;exact absurd h3 (by decide)
 · rfl
theorem Wo18.carry {S:Sv14} {wC wT:Nat->Rat} (h:Wo18 S wC wT) (hf:Fine14 S):sumR (fun e => if go19 S e then car19 S (th18 S wT) e else 0) S.H.length = ((amt17 S 0 S.T.length:Int):Rat):=by
 rw [car19_total hf (fun x _ hx => th18_lives h hx),h.keeps hf]
theorem rat18_cast (i:Int) (h:0<=i):((i:Int):Rat) = ((i.toNat:Nat):Rat):=by
 obtain ⟨k,rfl⟩:∃ k:Nat,i = (k:Int):=⟨i.toNat,by omega⟩
 rw [Int.toNat_natCast];rfl
theorem rat18_le1 (a b:Rat) (hb:0 < b) (h:a<=b):a / b<=1:=by
 refine Rat.not_lt.1 (fun h1 => ?_);have h2:=Rat.mul_lt_mul_of_pos_right h1 hb;have h3:a / b * b = a:=by grind
 grind
theorem rat18_div (a b:Rat) (h:0<=a) (hb:0 < b):0<=a / b:=by
 refine Rat.not_lt.1 (fun h1 => ?_);have h2:=Rat.mul_lt_mul_of_pos_right h1 hb;have h3:a / b * b = a:=by grind
 grind
def Prt18 (P:Nat) (x:Rat):Prop:=∃ N:Nat,x * (P:Rat) = (N:Rat)
theorem Prt18.zero (P:Nat):Prt18 P 0:=⟨0,by simp⟩
theorem Prt18.nat (P n:Nat):Prt18 P (n:Rat):=⟨n * P,by push_cast; rfl⟩
theorem Prt18.add {P:Nat} {x y:Rat} (h:Prt18 P x) (g:Prt18 P y):Prt18 P (x + y):=by
 obtain ⟨N,h⟩:=h;obtain ⟨M,g⟩:=g;refine ⟨N + M,?_⟩;have e:((N + M:Nat):Rat) = (N:Rat) + (M:Rat):=by push_cast; rfl
 grind
theorem Prt18.mono {P P':Nat} {x:Rat} (h:Prt18 P x) (hd:P ∣ P'):Prt18 P' x:=by
 obtain ⟨N,h⟩:=h;obtain ⟨k,rfl⟩:=hd;refine ⟨N * k,?_⟩;have e:((N * k:Nat):Rat) = (N:Rat) * (k:Rat):=by push_cast; rfl
 have e2:((P * k:Nat):Rat) = (P:Rat) * (k:Rat):=by push_cast; rfl
 grind
theorem Prt18.part {P:Nat} {x:Rat} (h:Prt18 P x) (a A:Nat) (hA:0 < A):Prt18 (P * A) ((a:Rat) / (A:Rat) * x):=by
 obtain ⟨N,h⟩:=h;refine ⟨a * N,?_⟩;have e:((a * N:Nat):Rat) = (a:Rat) * (N:Rat):=by push_cast; rfl
 have e2:((P * A:Nat):Rat) = (P:Rat) * (A:Rat):=by push_cast; rfl
 have h0:(A:Rat)≠0:=fun e => by
  have:A = 0:=by exact_mod_cast e
  omega
 grind
theorem Prt18.sum {P:Nat} {f:Nat->Rat}:∀ {n:Nat},(∀ k,k < n->Prt18 P (f k))->Prt18 P (sumR f n)
 | 0,_ => Prt18.zero P
 | n + 1,h => (Prt18.sum (n:=n) (fun k hk => h k (by omega))).add (h n (by omega))
def prd18 (f:Nat->Nat):Nat->Nat
 | 0 => 1
 | n + 1 => prd18 f n * f n
theorem prd18_dvd {f g:Nat->Nat} {n:Nat} (h:∀ k,k < n->f k ∣ g k):prd18 f n ∣ prd18 g n:=by
 induction n with
 | zero => exact Nat.dvd_refl _
 | succ n ih => exact Nat.mul_dvd_mul (ih (fun k hk => h k (by omega))) (h n (by omega))
theorem prd18_one {f g:Nat->Nat} {n c a:Nat} (hc:c < n) (h:∀ k,k < n->k≠c->f k ∣ g k) (ha:f c * a ∣ g c):prd18 f n * a ∣ prd18 g n:=by
 induction n with
 | zero => omega
 | succ n ih =>
  rw [prd18,prd18];by_cases e:c = n
  ·
   subst e;rw [Nat.mul_assoc];exact Nat.mul_dvd_mul (prd18_dvd (fun k hk => h k (by omega) (by omega))) ha
  ·
   have h1:=ih (by omega) (fun k hk => h k (by omega));have h2:=h n (by omega) (by omega);have h3:=Nat.mul_dvd_mul h1 h2
   rwa [Nat.mul_right_comm] at h3
theorem prd18_pos {f:Nat->Nat} {n:Nat} (h:∀ k,k < n->0 < f k):0 < prd18 f n:=by
 induction n with
 | zero => exact Nat.one_pos
 | succ n ih => exact Nat.mul_pos (ih (fun k hk => h k (by omega))) (h n (by omega))
theorem prd18_le {f:Nat->Nat} {n B:Nat} (h:∀ k,k < n->f k<=B):prd18 f n<=B ^ n:=by
 induction n with
 | zero => exact Nat.le_refl _
 | succ n ih =>
  rw [prd18,Nat.pow_succ];exact Nat.mul_le_mul (ih (fun k hk => h k (by omega))) (h n (by omega))
noncomputable def am18 (S:Sv14) (c:Nat):Nat:=if 0 < amt17 S (c:Int) S.T.length then (amt17 S (c:Int) S.T.length).toNat else 1
theorem am18_pos (S:Sv14) (c:Nat):0 < am18 S c:=by
 unfold am18;split <;> omega
theorem am18_le {S:Sv14} (hf:Fine14 S) (c:Nat):am18 S c<=134217728:=by
 have h1:=amt17_bound hf.2.2.2.2.1 (c:Int) S.T.length;have h2:S.T.length<=96:=hf.2.2.1.2.1.1;unfold am18;split
 · omega
 · omega
noncomputable def pd18 (S:Sv14) (D:Nat->Nat) (d:Nat):Nat:=prd18 (fun c => if D c < d then am18 S c else 1) S.C.length
noncomputable def pa18 (S:Sv14):Nat:=prd18 (am18 S) S.C.length
theorem pd18_all (S:Sv14) (D:Nat->Nat) (d:Nat):pd18 S D d ∣ pa18 S:=prd18_dvd (fun k _ => by
 split
 · exact Nat.dvd_refl _
 · exact Nat.one_dvd _)
theorem pd18_mono (S:Sv14) (D:Nat->Nat) {d e:Nat} (h:d<=e):pd18 S D d ∣ pd18 S D e:=prd18_dvd (fun k _ => by
 by_cases h1:D k < d
 ·
  rw [if_pos h1,if_pos (by omega)];exact Nat.dvd_refl _
 ·
  rw [if_neg h1]
  exact Nat.one_dvd _)
theorem pd18_next (S:Sv14) (D:Nat->Nat) {c:Nat} (hc:c < S.C.length):pd18 S D (D c) * am18 S c ∣ pd18 S D (D c + 1):=prd18_one hc (fun k _ _ => by
 by_cases h1:D k < D c
 ·
  rw [if_pos h1,if_pos (by omega)];exact Nat.dvd_refl _
 ·
  rw [if_neg h1]
  exact Nat.one_dvd _) (by rw [if_neg (by omega),if_pos (by omega),Nat.one_mul]; exact Nat.dvd_refl _)
theorem pa18_pos (S:Sv14):0 < pa18 S:=prd18_pos (fun k _ => am18_pos S k)
theorem pa18_le {S:Sv14} (hf:Fine14 S):pa18 S<=134217728 ^ 16:=by
 have h1:S.C.length<=16:=hf.2.2.1.1.1;exact Nat.le_trans (prd18_le (fun k _ => am18_le hf k)) (Nat.pow_le_pow_right (by omega) h1)
theorem Wo18.prt_t {S:Sv14} {wC wT:Nat->Rat} (h:Wo18 S wC wT) (hf:Fine14 S) {D:Nat->Nat} {k c:Nat} (hk:(gt14 S.T k).c = (c:Int)) (hc:Prt18 (pd18 S D (D c)) (wC c)):Prt18 (pd18 S D (D c + 1)) (wT k):=by
 have hT:Tickets14 S:=hf.2.2.2.2.1;by_cases hn:Cnt17 S k
 ·
  have hl:=hn.lt;have ht:=hT k hl.1 hl.2;have ha:((gt14 S.T k).a:Rat) = (((gt14 S.T k).a.toNat:Nat):Rat):=rat18_cast _ (by have:=ht.2.1; omega);rw [h.t,if_pos (cntb17_yes.2 hn),ha];by_cases h0:(gt14 S.T k).c = 0
  ·
   rw [if_pos h0];exact Prt18.nat _ _
  ·
   rw [if_neg h0,hk,Int.toNat_natCast];have hp:0 < amt17 S (c:Int) S.T.length:=(amt17_all hT (c:Int)).2 ⟨k,hk,hn⟩;have hA:am18 S c = (amt17 S (c:Int) S.T.length).toNat:=if_pos hp;rw [rat18_cast _ (Int.le_of_lt hp),<- hA]
   have hcl:c < S.C.length:=by
    have h1:=us15_lt ht.1;rw [hk] at h1;omega
   exact (hc.part _ _ (am18_pos S c)).mono (pd18_next S D hcl)
 ·
  rw [h.none hn];exact Prt18.zero _
theorem Wo18.prt_c {S:Sv14} {wC wT:Nat->Rat} (h:Wo18 S wC wT) (hf:Fine14 S) {D:Nat->Nat} (hD:Dep13 (Ca15 S) D):∀ (d c:Nat),D c<=d->Prt18 (pd18 S D (D c)) (wC c):=by
 have hT:Tickets14 S:=hf.2.2.2.2.1;intro d
 induction d with
 | zero =>
  intro c hc;rw [h.c];split
  ·
   rw [rat18_cast _ (amt17_bound hT 0 S.T.length).1];exact Prt18.nat _ _
  ·
   refine Prt18.sum (fun k hk => ?_);split
   ·
    next h1 =>
    exfalso;have ht:=hT k hk h1.1;have hu:=us15_lt ht.1
    have hto:us14 usC S.C (gt14 S.T k).t = true:=by
     rcases ht.2.2.2 with h4 | h4 | h4
     · rw [h1.2.1] at h4; exact absurd h4.1 (by decide)
     · rw [h1.2.1] at h4; exact absurd h4.1 (by decide)
     · exact h4.2.2
    rw [h1.2.2] at hto;have hcu:=us15_lt hto;have h2:=hD.up (gt14 S.T k).c.toNat c (ca15_mem.2 ⟨⟨k,⟨hk,h1.1,h1.2.1,h1.2.2⟩,by omega⟩,by omega,by omega⟩);omega
   · exact Prt18.zero _
 | succ d ih =>
  intro c hc;rw [h.c];split
  ·
   rw [rat18_cast _ (amt17_bound hT 0 S.T.length).1];exact Prt18.nat _ _
  ·
   refine Prt18.sum (fun k hk => ?_);split
   ·
    next h1 =>
    have ht:=hT k hk h1.1;have hu:=us15_lt ht.1
    have hto:us14 usC S.C (gt14 S.T k).t = true:=by
     rcases ht.2.2.2 with h4 | h4 | h4
     · rw [h1.2.1] at h4; exact absurd h4.1 (by decide)
     · rw [h1.2.1] at h4; exact absurd h4.1 (by decide)
     · exact h4.2.2
    rw [h1.2.2] at hto;have hcu:=us15_lt hto;obtain ⟨b,hb⟩:∃ b:Nat,(gt14 S.T k).c = (b:Int):=⟨(gt14 S.T k).c.toNat,by omega⟩
    have h2:=hD.up b c (ca15_mem.2 ⟨⟨k,⟨hk,h1.1,h1.2.1,h1.2.2⟩,by omega⟩,by omega,by omega⟩);exact (h.prt_t hf hb (ih b (by omega))).mono (pd18_mono S D h2)
   · exact Prt18.zero _
theorem am18_one {S:Sv14} (hT:Tickets14 S) {c:Int} {k n:Nat} (hk:k < n) (hc:(gt14 S.T k).c = c) (hn:Cnt17 S k):(gt14 S.T k).a<=amt17 S c n:=by
 induction n with
 | zero => omega
 | succ n ih =>
  rw [amt17];have h0:=(amt17_bound hT c n).1;rcases (show k < n\/k = n by omega) with h1 | rfl
  ·
   have h2:=ih h1;split
   ·
    next h3 =>
    have h4:=(cntb17_yes.1 h3.2).lt;have:=(hT n h4.1 h4.2).2.1;omega
   · omega
  ·
   rw [if_pos ⟨hc,cntb17_yes.2 hn⟩];omega
theorem sumR18_le {f:Nat->Rat} {x:Rat}:∀ {n:Nat},(∀ k,k < n->f k<=x)->sumR f n<=(n:Rat) * x
 | 0,_ => by simp [sumR]
 | n + 1,h => by
  have h1:=sumR18_le (n:=n) (fun k hk => h k (by omega));have h2:=h n (by omega);have e:((n + 1:Nat):Rat) = (n:Rat) + 1:=by push_cast; rfl
  rw [sumR,e]
  grind
theorem sumR18_pos {f:Nat->Rat}:∀ {n:Nat},(∀ k,k < n->0<=f k)->0<=sumR f n
 | 0,_ => by simp [sumR]
 | n + 1,h => by
  have h1:=sumR18_pos (n:=n) (fun k hk => h k (by omega));have h2:=h n (by omega);rw [sumR]
  grind
theorem Wo18.le_t {S:Sv14} {wC wT:Nat->Rat} (h:Wo18 S wC wT) (hf:Fine14 S) {k c:Nat} (hk:(gt14 S.T k).c = (c:Int)) (hc:0<=wC c):0<=wT k/\wT k<=wC c:=by
 have hT:Tickets14 S:=hf.2.2.2.2.1;by_cases hn:Cnt17 S k
 ·
  have hl:=hn.lt;have ht:=hT k hl.1 hl.2;have ha:((gt14 S.T k).a:Rat) = (((gt14 S.T k).a.toNat:Nat):Rat):=rat18_cast _ (by have:=ht.2.1; omega);have hle:=am18_one hT hl.1 hk hn;have hp:0 < amt17 S (c:Int) S.T.length:=by have:=ht.2.1; omega
  have hle2:(((gt14 S.T k).a.toNat:Nat):Rat)<=(((amt17 S (c:Int) S.T.length).toNat:Nat):Rat):=by
   have:(gt14 S.T k).a.toNat<=(amt17 S (c:Int) S.T.length).toNat:=by omega
   exact_mod_cast this
  have ha0:(0:Rat)<=(((gt14 S.T k).a.toNat:Nat):Rat):=by exact_mod_cast Nat.zero_le _
  have hp2:(0:Rat) < (((amt17 S (c:Int) S.T.length).toNat:Nat):Rat):=by
   have:0 < (amt17 S (c:Int) S.T.length).toNat:=by omega
   exact_mod_cast this
  rw [h.t,if_pos (cntb17_yes.2 hn),ha];by_cases h0:(gt14 S.T k).c = 0
  ·
   rw [if_pos h0];obtain rfl:c = 0:=by omega
   rw [h.c 0,if_pos rfl];rw [show amt17 S ((0:Nat):Int) S.T.length = amt17 S 0 S.T.length from rfl] at hle2 hp;rw [rat18_cast _ (Int.le_of_lt hp)];exact ⟨ha0,hle2⟩
  ·
   rw [if_neg h0,hk,Int.toNat_natCast,rat18_cast _ (Int.le_of_lt hp)];have h1:=rat18_le1 _ _ hp2 hle2;have h2:=rat18_div _ _ ha0 hp2;refine ⟨Rat.mul_nonneg h2 hc,?_⟩;have h3:=Rat.mul_le_mul_of_nonneg_right h1 hc
   grind
 ·
  rw [h.none hn];exact ⟨by grind,hc⟩
theorem Wo18.le_c {S:Sv14} {wC wT:Nat->Rat} (h:Wo18 S wC wT) (hf:Fine14 S) {D:Nat->Nat} (hD:Dep13 (Ca15 S) D):∀ (d c:Nat),D c<=d->0<=wC c/\wC c<=((96 ^ d * 134217728:Nat):Rat):=by
 have hT:Tickets14 S:=hf.2.2.2.2.1;have hn96:S.T.length<=96:=hf.2.2.1.2.1.1
 have hb:∀ d,(0:Rat)<=((amt17 S 0 S.T.length:Int):Rat)/\((amt17 S 0 S.T.length:Int):Rat)<=((96 ^ d * 134217728:Nat):Rat):=by
  intro d;have h1:=amt17_bound hT 0 S.T.length;rw [rat18_cast _ h1.1];refine ⟨by exact_mod_cast Nat.zero_le _,?_⟩;have h2:(amt17 S 0 S.T.length).toNat<=1 * 134217728:=by omega
  have h3:(amt17 S 0 S.T.length).toNat<=96 ^ d * 134217728:=Nat.le_trans h2 (Nat.mul_le_mul_right _ (Nat.one_le_pow _ _ (by omega)))
  exact_mod_cast h3
 have hup:∀ {k c:Nat},k < S.T.length->((gt14 S.T k).u = true/\(gt14 S.T k).k = 2/\(gt14 S.T k).t = (c:Int))->∃ b:Nat,(gt14 S.T k).c = (b:Int)/\D b + 1<=D c:=by
  intro k c hk h1;have ht:=hT k hk h1.1;have hu:=us15_lt ht.1
  have hto:us14 usC S.C (gt14 S.T k).t = true:=by
   rcases ht.2.2.2 with h4 | h4 | h4
   · rw [h1.2.1] at h4; exact absurd h4.1 (by decide)
   · rw [h1.2.1] at h4; exact absurd h4.1 (by decide)
   · exact h4.2.2
  rw [h1.2.2] at hto;have hcu:=us15_lt hto;obtain ⟨b,hb⟩:∃ b:Nat,(gt14 S.T k).c = (b:Int):=⟨(gt14 S.T k).c.toNat,by omega⟩
  exact ⟨b,hb,hD.up b c (ca15_mem.2 ⟨⟨k,⟨hk,h1.1,h1.2.1,h1.2.2⟩,by omega⟩,by omega,by omega⟩)⟩
 intro d
 induction d with
 | zero =>
  intro c hc;rw [h.c];split
  · exact hb 0
  ·
   rw [sumR_all (fun k hk => ?_)]
   · exact ⟨by grind,by exact_mod_cast Nat.zero_le _⟩
   ·
    split
    ·
     next h1 =>
     obtain ⟨b,_,h2⟩:=hup hk h1;omega
    · rfl
 | succ d ih =>
  intro c hc;rw [h.c];split
  · exact hb (d + 1)
  ·
   have hall:∀ k,k < S.T.length->0<=(if (gt14 S.T k).u = true/\(gt14 S.T k).k = 2/\(gt14 S.T k).t = (c:Int) then wT k else 0)/\(if (gt14 S.T k).u = true/\(gt14 S.T k).k = 2/\(gt14 S.T k).t = (c:Int) then wT k else 0)<=((96 ^ d * 134217728:Nat):Rat):=by
    intro k hk;split
    ·
     next h1 =>
     obtain ⟨b,hb1,h2⟩:=hup hk h1;have h3:=ih b (by omega);have h4:=h.le_t hf hb1 h3.1;exact ⟨h4.1,Rat.le_trans h4.2 h3.2⟩
    · exact ⟨by grind,by exact_mod_cast Nat.zero_le _⟩
   refine ⟨sumR18_pos (fun k hk => (hall k hk).1),Rat.le_trans (sumR18_le (fun k hk => (hall k hk).2)) ?_⟩;have e:((S.T.length:Nat):Rat) * ((96 ^ d * 134217728:Nat):Rat) = ((S.T.length * (96 ^ d * 134217728):Nat):Rat):=by push_cast; rfl
   rw [e]
   have h5:S.T.length * (96 ^ d * 134217728)<=96 ^ (d + 1) * 134217728:=by
    rw [Nat.pow_succ,Nat.mul_comm (96 ^ d) 96,Nat.mul_assoc];exact Nat.mul_le_mul_right _ hn96
   exact_mod_cast h5
theorem Wo18.small {S:Sv14} {wC wT:Nat->Rat} (h:Wo18 S wC wT) (hf:Fine14 S) :
  (∀ c,Prt18 (pa18 S) (wC c)/\0<=wC c/\wC c<=((96 ^ 16 * 134217728:Nat):Rat))/\∀ k,Prt18 (pa18 S) (wT k)/\0<=wT k/\wT k<=((96 ^ 16 * 134217728:Nat):Rat):=by
 obtain ⟨os,hd,hl⟩:Free14R S.C.length (cArr14 S S.T.length):=hf.2.2.2.2.2.2.2.2.1;obtain ⟨D,hD,hn⟩:=dep13_ex (A:=Ca15 S) (in13_cut _ _) hd.1 hl;have h16:S.C.length<=16:=hf.2.2.1.1.1;have hc:∀ c,0<=wC c/\wC c<=((96 ^ 16 * 134217728:Nat):Rat):=fun c => h.le_c hf hD 16 c (by have:=hn c; omega)
 refine ⟨fun c => ⟨(h.prt_c hf hD (D c) c (Nat.le_refl _)).mono (pd18_all S D _),hc c⟩,fun k => ?_⟩;by_cases hk:Cnt17 S k
 ·
  have hl:=hk.lt;have hu:=us15_lt (hf.2.2.2.2.1 k hl.1 hl.2).1;obtain ⟨c,hkc⟩:∃ c:Nat,(gt14 S.T k).c = (c:Int):=⟨(gt14 S.T k).c.toNat,by omega⟩
  have h1:=h.le_t hf hkc (hc c).1;exact ⟨(h.prt_t hf hkc (h.prt_c hf hD (D c) c (Nat.le_refl _))).mono (pd18_all S D _),h1.1,Rat.le_trans h1.2 (hc c).2⟩
 ·
  rw [h.none hk];exact ⟨Prt18.zero _,by grind,by exact_mod_cast Nat.zero_le _⟩
end
section
open Go.RowKit
structure DivMem (w:World) (g7:Nat) (x y s:Value) (ds:List Nat) (R:Nat) (wr:World):Prop where
 below:Below w.heap.size w wr
 one:Blk wr w.heap.size 33 #[x]
 two:Blk wr (w.heap.size + 1) 33 #[y]
 res1:Blk wr (w.heap.size + 2) 33 #[.slice none 0 0]
 res2:Blk wr (w.heap.size + 3) 33 #[.slice none 0 0]
 row:Blk wr (w.heap.size + 4) 3 (ints ds).toArray
 rest:Blk wr g7 33 #[s]
 num:Num wr (g7 + 1) (.agg #[s]) R
 far:w.heap.size + 4 < g7
theorem DivMem.start {w w1:World} {x y:Value} {N:Nat} {cur:List Value} {G:Nat}
  (hG:G = w.heap.size + 4) (hown:w1.ownsRow (w.heap.size + 4) 3 1 (.slice (some ⟨G,0,none⟩) N N) N cur) (hcur:cur = ints (List.replicate N 0))
  (hg:((((w.alloc (.cells #[x] 33)).alloc (.cells #[y] 33)).alloc (.cells #[.slice none 0 0] 33)).alloc (.cells #[.slice none 0 0] 33)).grownBy w1 none) :
  DivMem w w1.heap.size x y (.slice none 0 0) (List.replicate N 0) 0 (w1.alloc (.cells #[.slice none 0 0] 33)):=by
 subst hG
 have hb0:Below w.heap.size w ((((w.alloc (.cells #[x] 33)).alloc (.cells #[y] 33)).alloc (.cells #[.slice none 0 0] 33)).alloc (.cells #[.slice none 0 0] 33)) :=
  ((((Below.refl _ _).alloc (Nat.le_refl _) _).alloc (by simp) _).alloc (by simp; omega) _).alloc (by simp; omega) _
 have hb1:=hb0.grown hg (by simp; omega) (by intro k hk; cases hk);have h1:=((((Blk.new w 33 #[x]).alloc (.cells #[y] 33)).alloc (.cells #[.slice none 0 0] 33)).alloc (.cells #[.slice none 0 0] 33)).grown hg (by simp)
 have h2:=(((Blk.new (w.alloc (.cells #[x] 33)) 33 #[y]).alloc (.cells #[.slice none 0 0] 33)).alloc (.cells #[.slice none 0 0] 33)).grown hg (by simp);have h3:=((Blk.new ((w.alloc (.cells #[x] 33)).alloc (.cells #[y] 33)) 33 #[.slice none 0 0]).alloc (.cells #[.slice none 0 0] 33)).grown hg (by simp)
 have h4:=(Blk.new (((w.alloc (.cells #[x] 33)).alloc (.cells #[y] 33)).alloc (.cells #[.slice none 0 0] 33)) 33 #[.slice none 0 0]).grown hg (by simp)
 have hrow:Blk w1 (w.heap.size + 4) 3 (ints (List.replicate N 0)).toArray:=by
  rcases hown.2 with ⟨h,_⟩ | ⟨g,cap,c,hv,_,hh,_,_,hsz,ht⟩
  · injection h with h; cases h
  ·
   injection hv with hv _ hcap
   injection hv with hv
   injection hv with hv
   subst hv hcap;unfold Blk;rw [hh]
   have:c = (ints (List.replicate N 0)).toArray:=by
    rw [<- hcur,<- ht,List.take_of_length_le (by simp; omega)]
   rw [this]
 have hlt:=hrow.lt
 exact ⟨hb1.alloc hb1.size _,h1.alloc _,by simpa using h2.alloc (.cells #[.slice none 0 0] 33),by simpa using h3.alloc (.cells #[.slice none 0 0] 33),by simpa using h4.alloc (.cells #[.slice none 0 0] 33),
  hrow.alloc _,Blk.new _ _ _,⟨none,[],0,0,rfl,rfl,Nat.le_refl _,Rd.nil _ _ _,fun h => absurd rfl h,Can.nil,rfl⟩,hlt⟩
theorem DivMem.more {w wr w1:World} {g7:Nat} {x y s:Value} {ds:List Nat} {R:Nat} (h:DivMem w g7 x y s ds R wr) (hb:Below wr.heap.size wr w1):DivMem w g7 x y s ds R w1 :=
 ⟨h.below.trans (hb.mono h.below.size),h.one.below hb h.one.lt,h.two.below hb h.two.lt,h.res1.below hb h.res1.lt,h.res2.below hb h.res2.lt,h.row.below hb h.row.lt,h.rest.below hb h.rest.lt,h.num.below hb,h.far⟩
theorem DivMem.store {w wr:World} {g7:Nat} {x y s:Value} {ds:List Nat} {R:Nat} (h:DivMem w g7 x y s ds R wr) (j r:Nat) :
  DivMem w g7 x y s (ds.set j r) R (wr.setCell ⟨w.heap.size + 4,j,none⟩ (.int .i64 (r:Int))):=by
 have hf:=h.far;refine ⟨h.below.setCell (by simp) _,h.one.far (by simp) _,h.two.far (by simp) _,h.res1.far (by simp) _,h.res2.far (by simp) _,?_,h.rest.far (by simp; omega) _,h.num.old (by simp; omega) _,hf⟩;have:=h.row.set_ j (.int .i64 (r:Int))
 have e:(ints ds).toArray.setIfInBounds j (.int .i64 (r:Int)) = (ints (ds.set j r)).toArray:=by simp [ints,List.map_set]
 rw [e] at this;exact this
theorem DivMem.digit {w wr:World} {g7:Nat} {x y s:Value} {ds:List Nat} {R:Nat} (h:DivMem w g7 x y s ds R wr) {j:Nat} (hj:j < ds.length) :
  wr.cell? ⟨w.heap.size + 4,j,none⟩ = some (.int .i64 ((nth ds j:Nat):Int)):=by
 rw [h.row.cell j];simpa using ints_get hj
theorem DivMem.put {w wr:World} {g7:Nat} {x y s s':Value} {ds:List Nat} {R R' L:Nat} (h:DivMem w g7 x y s ds R wr) (hn:Num wr L (.agg #[s']) R') (hL:g7 < L) :
  DivMem w g7 x y s' ds R' (wr.setCell ⟨g7,0,none⟩ s'):=by
 have hf:=h.far;refine ⟨h.below.setCell (by simp; omega) _,h.one.far (by simp; omega) _,h.two.far (by simp; omega) _,h.res1.far (by simp; omega) _,h.res2.far (by simp; omega) _,h.row.far (by simp; omega) _,?_,(hn.old (by simp; omega) _).more (by omega),hf⟩;have:=h.rest.set_ 0 s';simpa using this
def DOut (xs:List Nat) (b n1:Nat) (w:World) (g7:Nat) (x y:Value) (k:Nat) (wr:World):Prop :=
 ∃ ds s R,ds.length = n1/\Dig ds/\V (xs.drop k) = V (ds.drop k) * b + R/\R < b/\DivMem w g7 x y s ds R wr
theorem V_set_drop {ds:List Nat} {j r:Nat} (hj:j < ds.length):V ((ds.set j r).drop j) = r + 65536 * V (ds.drop (j + 1)):=by
 rw [V_drop,nth_set hj,if_pos rfl]
 congr 3
 rw [List.drop_set];simp
theorem div_step {xs ds:List Nat} {l b R T q:Nat} (hV:V (xs.drop (l + 1)) = V (ds.drop (l + 1)) * b + R) (hT:nth xs l + 65536 * R = T) (hq:b * q<=T) (hl:l < ds.length) :
  V (xs.drop l) = V ((ds.set l q).drop l) * b + (T - b * q):=by
 rw [V_drop,hV,V_set_drop hl];obtain ⟨t,ht⟩:∃ t,T = b * q + t:=⟨T - b * q,by omega⟩
 rw [ht,Nat.add_sub_cancel_left];generalize V (ds.drop (l + 1)) = D at *
 rw [ht] at hT
 grind
theorem bel_of_drew {w w1:World} (h:Below w.drew.heap.size w.drew w1):Below w.heap.size w w1:=(Below.refl _ _).drew.trans h
theorem div_end {X D b R:Nat} (h:X = D * b + R) (hR:R < b):X / b = D/\X % b = R:=by
 subst h;rw [Nat.mul_comm D b];exact ⟨by rw [Nat.mul_add_div (by omega),Nat.div_eq_of_lt hR,Nat.add_zero],by rw [Nat.mul_add_mod,Nat.mod_eq_of_lt hR]⟩
theorem div_keep {w W:World} {g7 B:Nat} {s:Value} {p:Addr} (h:W.cell? ⟨g7,0,none⟩ = some s/\Below B w W) (hp:p.block≠g7) (hB:B<=p.block) (u:Value) :
  (W.setCell p u).cell? ⟨g7,0,none⟩ = some s/\Below B w (W.setCell p u) :=
 ⟨(World.cell?_setCell_other W p _ u (fun e => by subst e; simp at hp)).trans h.1,h.2.setCell hB _⟩
theorem div_s {w wr:World} {g7:Nat} {x y s:Value} {ds:List Nat} {R:Nat} (h:DivMem w g7 x y s ds R wr):wr.cell? ⟨g7,0,none⟩ = some s/\Below w.heap.size w wr:=⟨h.rest.cell 0,h.below⟩
theorem div_big1 {T b kb:Nat} (h:T < (65535 + 1) * b) (hb:b < 65536 ^ kb):T < 65536 ^ (kb + 10):=by
 have h1:(65535 + 1) * b<=65536 * 65536 ^ kb:=Nat.mul_le_mul_left _ (by omega);have h2:(65536:Nat) * 65536 ^ kb<=65536 ^ (kb + 10):=by rw [Nat.mul_comm,<- Nat.pow_succ]; exact Nat.pow_le_pow_right (by omega) (by omega)
 omega
theorem div_big2 {q b kb:Nat} (h:q<=65535) (hb:b < 65536 ^ kb):b * q < 65536 ^ (kb + 10):=by
 have h0:b * q<=b * 65535:=Nat.mul_le_mul_left _ h;have h1:b * 65536<=65536 ^ kb * 65536:=Nat.mul_le_mul_right _ (by omega);have h2:(65536:Nat) ^ kb * 65536<=65536 ^ (kb + 10):=by rw [<- Nat.pow_succ]; exact Nat.pow_le_pow_right (by omega) (by omega)
 have h3:0 < 65536 ^ (kb + 10):=Nat.pow_pos (by omega);omega
theorem div_cmp (a b:Nat):∃ z:Int,cmpI a b = z/\((z<=0/\a<=b)\/(¬ z<=0/\b < a)):=by
 rcases Nat.lt_trichotomy a b with h | h | h
 · exact ⟨-1,cmpI_lt h,.inl ⟨by omega,by omega⟩⟩
 · exact ⟨0,cmpI_eq h,.inl ⟨by omega,by omega⟩⟩
 · exact ⟨1,cmpI_gt h,.inr ⟨by omega,h⟩⟩
theorem div_dig {d:Nat} {rs:List Nat} (h:d < 65536) (hr:Dig rs):Dig ([d] ++ rs):=by
 intro x hx;rcases List.mem_append.1 hx with h1 | h1
 · simp at h1; omega
 · exact hr x h1
theorem div_len {d n n3:Nat} {rs:List Nat} (h:([d] ++ rs).length = n) (hr:rs.length = n3) (h3:n3<=4000):n<=1000000:=by
 simp at h;omega
theorem divm_x {w w1:World} {x y a b:Obj} (hg:((((w.alloc x).alloc y).alloc a).alloc b).grownBy w1 none):w1.cell? ⟨w.heap.size,0,none⟩ = (w.alloc x).cell? ⟨w.heap.size,0,none⟩:=by
 have h:w1.cell? ⟨w.heap.size,0,none⟩ = ((((w.alloc x).alloc y).alloc a).alloc b).cell? ⟨w.heap.size,0,none⟩:=World.cell?_of_block (hg.block w.heap.size (by simp; omega) (by simp));rw [h,World.cell?_alloc_lt _ _ _ (by simp; omega),World.cell?_alloc_lt _ _ _ (by simp; omega),World.cell?_alloc_lt _ _ _ (by simp)]
set_option maxRecDepth 100000 in
theorem div_any (A1:Option Addr) (xs:List Nat) (n1 c1:Nat) (s2:Value) (b L:Nat) (w:World) (hl1:xs.length = n1) (hr1:Rd w w.heap.size A1 xs) (hd1:Dig xs) (hn1:n1<=4000)
  (hy:Num w L (.agg #[s2]) b) (hb0:0 < b) {kb:Nat} (hbb:b < 65536 ^ kb) (hkb:kb<=4000) :
  Calls Tryz.prog 70 #[.agg #[.slice A1 n1 c1],.agg #[s2]] w fun e w' => ∃ v1 v2,e = .returned (.tuple #[v1,v2])/\Num w' w.heap.size v1 (V xs / b)/\Num w' w.heap.size v2 (V xs % b)/\Below w.heap.size w w':=by
 have HL1:=qz hl1;clear hl1;have HB:=qz hbb;clear hbb;obtain ⟨i0,hi0,hz0,hz1,hz2⟩:=info_parts info_int;go_enter Tryz.func70,Tryz.ntmps70
 go_wp2_with ((with_reducible refine wpList_make_full _ rfl (.tmp 14) (.tmp 14) 26 rfl (w.heap.size + 4) 3 i0 (.int .i64 0) 1 Tryz.underlying26 hi0 hz0 hz1 .i64 .i64 _ _ n1 rfl rfl (by omega) (by omega) (by rw [hz2]; omega) (by unfold maxLen; omega) (by simp) ?_); intro w1 hown1 hg1; have hx1:w1.cell? ⟨w.heap.size,0,none⟩ = some (.slice A1 n1 c1):=(divm_x hg1).trans ((Blk.new w _ _).cell 0); have hx2:(w1.alloc (.cells #[.slice none 0 0] 33)).cell? ⟨w.heap.size,0,none⟩ = some (.slice A1 n1 c1):=(World.cell?_alloc_lt _ _ _ (World.block_lt_of_cell? _ _ hx1)).trans hx1)
 have hm0:DivMem w w1.heap.size (.slice A1 n1 c1) s2 (.slice none 0 0) (List.replicate n1 0) 0 (w1.alloc (.cells #[.slice none 0 0] 33)):=DivMem.start (by simp) hown1 (madeCells_ints n1) hg1;have HM0:=qz hm0;obtain ⟨g7,hg7⟩:∃ g7,g7 = w1.heap.size:=⟨_,rfl⟩
 rw [<- hg7] at HM0 ⊢;clear hown1 hg1 hm0 hz0 hz1 hz2 hx1 hx2;go_loopw [8] (fun i wr => ∃ (k:Nat) (j:Int),i = .int .i64 j/\j + 1 = (k:Int)/\k<=n1/\DOut xs b n1 w g7 (.slice A1 n1 c1) s2 k wr) (fun i _ => (intOf i + 1).toNat)
 case atStart => exact ⟨n1,_,rfl,by omega,by omega,List.replicate n1 0,_,0,by simp,zeros_dig n1,by rw [List.drop_eq_nil_of_le (by have:=HL1.out; omega),List.drop_eq_nil_of_le (by simp)]; simp [V],hb0,HM0.out⟩
 case round =>
  clear HM0 hg7;obtain ⟨k,j,rfl,hj,hk,ds,s,R,hdl,hdd,hV,hRb,hmm⟩:=hrel;have HV:=qz hV;have HDL:=qz hdl;have HM:=qz hmm;clear hV hdl hmm;by_cases ht:0 < k
  ·
   obtain ⟨l,rfl⟩:∃ m,k = m + 1:=⟨k - 1,by omega⟩
   obtain rfl:j = (l:Int):=by omega
   obtain ⟨A3,n3,c3,hs3⟩:=HM.out.num.shape;obtain rfl:s = .slice A3 n3 c3:=by simpa using hs3
   obtain ⟨b1,o1,hA1,hb1,cx⟩:=(hr1.below HM.out.below (Nat.le_refl _)).at_ (k:=l) (by have:=HL1.out; omega);subst hA1;have ca:=HM.out.one.cell 0;have cr:=HM.out.rest.cell 0;have hi0':(0:Int)<=(l:Int):=by omega
   have hi1':(l:Int) < (n1:Int):=by omega
   have hxl:=hd1.nth l;clear hs3;obtain ⟨A3',rs,n3',c3',hv3,hrl,hrc,hrr,_,hrcan,hrv⟩:=HM.out.num;simp only [Value.agg.injEq,Array.mk.injEq,List.cons.injEq,Value.slice.injEq,and_true] at hv3;obtain ⟨rfl,rfl,rfl⟩:=hv3;have hrn:n3<=4000:=by have:=hrcan.len (k:=kb) (by have:=HB.out; omega); omega
   have HRL:=qz hrl;have HRV:=qz hrv;have HRD:=qz hrcan.1;have cr2:(wr.alloc (.cells #[.int .i64 ((nth xs l:Nat):Int)] 3)).cell? ⟨g7,0,none⟩ = some (.slice A3 n3 c3):=(World.cell?_alloc_lt _ _ _ HM.out.rest.lt).trans cr;have hw5:w.heap.size + 5<=wr.heap.size:=by have:=HM.out.rest.lt; have:=HM.out.far; omega
   clear hrl hrv hrcan;go_upto_region 6 with (fail)
   go_cut [] (fun wx => ∃ (A4:Option Addr) (n4 c4:Nat),DivMem w g7 (.slice (some ⟨b1,o1,none⟩) n1 c1) s2 (.slice A4 n4 c4) ds (nth xs l + 65536 * R) wx)
   case first =>
    go_region_law (first
     | (refine step_append_ints _ (by rfl) _ _ _ (by rfl) (w.heap.size + 5) 3 Tryz.underlying26 info_int _ [nth xs l] (by rfl) ((owns_lit wr (w.heap.size + 5) 3 [nth xs l] hw5 (by simp [maxLen])).drew) wr.heap.size A3 n3 rs c3 HRL.out (by rfl) (hrr.keep fun p hp => World.cell?_alloc_lt wr _ p hp) (by have:=HRL.out; simp; omega) (by simp; omega) ?_; intro A' n' c' w2 hl2 hc2 hown2 hg2)
     | (
       go_simp; go_at_call 72; refine (cut_any A' ([nth xs l] ++ rs) n' c' _ hl2.out (Rd.of_own hown2.out) (div_dig hxl HRD.out) (div_len hl2.out HRL.out hrn) hc2).mono ?_; rintro e w3 ⟨v,rfl,hn4,hb4⟩; obtain ⟨A4,n4,c4,rfl⟩:=hn4.shape
       have hB2:Below wr.heap.size wr w2:=(((Below.refl _ _).alloc (Nat.le_refl _) _).drew).grown hg2 (by simp) (by intro k hk; simp [Value.ownBlock] at hk; omega);have M3:=qz ((HM.out.more hB2).more hb4);have M3c:=M3.out.rest.cell 0;have M3f:=M3.out.rest.frozen 0;have HN4:=qz hn4;have hz4:=hB2.size
       clear hn4))
    all_goals
     go_wp2_with fail;go_meet;have hn4:=HN4.out;rw [V_append,show V [nth xs l] = nth xs l by simp [V],HRV.out] at hn4;exact ⟨A4,n4,c4,M3.out.put hn4 (by have:=HM.out.rest.lt; omega)⟩
   case rest =>
    clear hrr hw5 HRL HRV HRD cr2 cx ca cr hb1;obtain ⟨A4,n4,c4,hm⟩:=hcut;obtain ⟨T,hT⟩:=exq (nth xs l + 65536 * R);rw [hT] at hm;have HT:=qz hT
    have HTB:Hid (T < (65535 + 1) * b):=qz (by
     have h:(R + 1) * 65536<=b * 65536:=Nat.mul_le_mul_right _ hRb
     omega)
    have HT2:Hid (T < 65536 ^ (kb + 10)):=qz (div_big1 HTB.out HB.out);have HM2:=qz hm;clear hT hm;go_wp2_with fail
    go_loopw [9,10] (fun y9 y10 wr => ∃ lo hi:Nat,y9 = .int .i64 (lo:Int)/\y10 = .int .i64 (hi:Int)/\lo<=hi/\hi<=65535/\Hid (lo * b<=T)/\Hid (T < (hi + 1) * b)/\DivMem w g7 (.slice (some ⟨b1,o1,none⟩) n1 c1) s2 (.slice A4 n4 c4) ds T wr) (fun y9 y10 _ => (intOf y10).toNat - (intOf y9).toNat)
    case atStart => exact ⟨0,65535,rfl,rfl,by omega,by omega,qz (by omega),HTB,HM2.out⟩
    case round =>
     clear HM2 HM HTB;obtain ⟨lo,hi,rfl,rfl,hlh,hhi,HLO,HHI,hm⟩:=hrel;have HM:=qz hm;have cy:=hm.two.cell 0;have cr:=hm.rest.cell 0;clear hm;by_cases hlt:lo < hi
     ·
      obtain ⟨mid,hmid⟩:∃ mid,mid = (lo + hi + 1) / 2:=⟨_,rfl⟩
      have hmid1:lo < mid:=by omega
      have hmid2:mid<=hi:=by omega
      have HMID:Hid (((lo:Int) + (hi:Int) + 1) / 2 = (mid:Int)):=qz (by omega);clear hmid;have HBM:Hid (b * mid < 65536 ^ (kb + 10)):=qz (div_big2 (by omega) HB.out);have HBB:Hid (b < 65536 ^ (kb + 10)):=qz (by have:=HBM.out; have h1:b * 1<=b * mid:=Nat.mul_le_mul_left _ (by omega); omega)
      have hcv:IntKind.u64.wrap (mid:Int) = (mid:Int):=u64_in _ (by omega);obtain ⟨z,hz,hcase⟩:=div_cmp (b * mid) T;have HZ:=qz hz;clear hz;go_wp2_with fail;rw [HMID.out];rcases hcase with ⟨hz0,hle⟩ | ⟨hz0,hle⟩
      ·
       have HLE:=qz hle;clear hle
       go_region_held3 (fun w' => w'.cell? ⟨w.heap.size + 1,0,none⟩ = some s2/\w'.cell? ⟨g7,0,none⟩ = some (.slice A4 n4 c4)/\Below wr.heap.size wr w')
        (first | exact ⟨cy,cr,(Below.refl _ _).drew⟩ | assumption)
       (first
        | (go_at_call 33; (with_reducible refine (of_any mid _ (by omega)).mono ?_); rintro e u1 ⟨v1,rfl,hn1,hb1⟩; have N1:=qz hn1; clear hn1; have hS1:=held_more hb1 (by assumption))
        | (go_at_call 53; (with_reducible refine (mul_num (.agg #[s2]) v1 b mid _ _ _ (hy.below (HM.out.below.trans (hS1.2.2.mono HM.out.below.size))) N1.out HBB.out (pow_word (by omega))).mono ?_); rintro e u3 ⟨v3,rfl,hn3,hb3⟩; have N3:=qz hn3; clear hn3; have hS3:=held_more hb3 (by assumption))
        | (go_at_call 86; (with_reducible refine (cmp_num v3 (.agg #[.slice A4 n4 c4]) (b * mid) T _ _ _ N3.out (HM.out.num.below hS3.2.2) HBM.out HT2.out).mono ?_); rintro e u5 ⟨rfl,hb5⟩; rw [HZ.out]; have hS5:=held_more hb5 (by assumption)))
       have hB:=hS5.2.2;clear hS1 hS3 hS5 N1 N3;go_wp2_with fail;go_roundw
       case rel => exact ⟨mid,hi,rfl,rfl,by omega,by omega,qz (by rw [Nat.mul_comm]; exact HLE.out),HHI,HM.out.more hB⟩
       case measure => simp [intOf]; omega
      ·
       have HLE:=qz hle;clear hle
       go_region_held3 (fun w' => w'.cell? ⟨w.heap.size + 1,0,none⟩ = some s2/\w'.cell? ⟨g7,0,none⟩ = some (.slice A4 n4 c4)/\Below wr.heap.size wr w')
        (first | exact ⟨cy,cr,(Below.refl _ _).drew⟩ | assumption)
       (first
        | (go_at_call 33; (with_reducible refine (of_any mid _ (by omega)).mono ?_); rintro e u1 ⟨v1,rfl,hn1,hb1⟩; have N1:=qz hn1; clear hn1; have hS1:=held_more hb1 (by assumption))
        | (go_at_call 53; (with_reducible refine (mul_num (.agg #[s2]) v1 b mid _ _ _ (hy.below (HM.out.below.trans (hS1.2.2.mono HM.out.below.size))) N1.out HBB.out (pow_word (by omega))).mono ?_); rintro e u3 ⟨v3,rfl,hn3,hb3⟩; have N3:=qz hn3; clear hn3; have hS3:=held_more hb3 (by assumption))
        | (go_at_call 86; (with_reducible refine (cmp_num v3 (.agg #[.slice A4 n4 c4]) (b * mid) T _ _ _ N3.out (HM.out.num.below hS3.2.2) HBM.out HT2.out).mono ?_); rintro e u5 ⟨rfl,hb5⟩; rw [HZ.out]; have hS5:=held_more hb5 (by assumption)))
       have hB:=hS5.2.2;clear hS1 hS3 hS5 N1 N3;obtain ⟨md,rfl⟩:∃ m,mid = m + 1:=⟨mid - 1,by omega⟩
       go_wp2_with fail;go_roundw
       case rel => exact ⟨lo,md,rfl,by go_num,by omega,by omega,HLO,qz (by rw [Nat.mul_comm]; exact HLE.out),HM.out.more hB⟩
       case measure => simp [intOf]; omega
     ·
      obtain rfl:lo = hi:=by omega
      have HQ:Hid (b * lo<=T):=qz (by rw [Nat.mul_comm]; exact HLO.out);have HR2:Hid (T - b * lo < b):=qz (by have:=HHI.out; have:=HLO.out; rw [Nat.mul_comm b lo]; rw [Nat.add_mul] at *; omega);have HBM:Hid (b * lo < 65536 ^ (kb + 10)):=qz (div_big2 (by omega) HB.out)
      have HBB:Hid (b < 65536 ^ (kb + 10)):=qz (Nat.lt_of_lt_of_le HB.out (Nat.pow_le_pow_right (by omega) (by omega)));have cd:wr.cell? ⟨w.heap.size + 1 + 1 + 1 + 1,l,none⟩ = some (.int .i64 ((nth ds l:Nat):Int)):=HM.out.digit (by have:=HDL.out; omega);have cf:wr.frozen? ⟨w.heap.size + 1 + 1 + 1 + 1,l,none⟩ = false:=HM.out.row.frozen l
      have hM4:=HM.out.store l lo;have HM4:=qz hM4;have hcv:IntKind.u64.wrap (lo:Int) = (lo:Int):=u64_in _ (by omega);clear hM4 HLO HHI;go_upto_region 15 with (fail)
      obtain ⟨wq,hwq⟩:∃ wq,wq = wr.setCell ⟨w.heap.size + 1 + 1 + 1 + 1,l,none⟩ (.int .i64 (lo:Int)):=⟨_,rfl⟩
      have HM5:Hid (DivMem w g7 (.slice (some ⟨b1,o1,none⟩) n1 c1) s2 (.slice A4 n4 c4) (ds.set l lo) T wq):=qz (by rw [hwq]; exact HM4.out);rw [<- hwq];have cy:=HM5.out.two.cell 0;have cr:=HM5.out.rest.cell 0;clear hwq HM4 cd cf HM
      have HV2:Hid (V (xs.drop l) = V ((ds.set l lo).drop l) * b + (T - b * lo)):=qz (div_step HV.out HT.out HQ.out (by have:=HDL.out; omega))
      go_region_law (first
       | (go_simp; go_at_call 33; (with_reducible refine (of_any lo _ (by omega)).mono ?_); rintro e u1 ⟨v1,rfl,hn1,hb1⟩; have hq1:=bel_of_drew hb1; have M1:=qz (HM5.out.more hq1); have M1y:=M1.out.two.cell 0; have M1r:=M1.out.rest.cell 0; have N1:=qz hn1; clear hn1)
       | (go_simp; go_at_call 53; (with_reducible refine (mul_num (.agg #[s2]) v1 b lo _ _ _ (hy.below M1.out.below) N1.out HBB.out (pow_word (by omega))).mono ?_); rintro e u3 ⟨v3,rfl,hn3,hb3⟩; have M3:=qz (M1.out.more hb3); have M3r:=M3.out.rest.cell 0; have N3:=qz hn3; clear hn3)
       | (go_simp; go_at_call 87; (with_reducible refine (sub_num (.agg #[.slice A4 n4 c4]) v3 T (b * lo) _ _ _ M3.out.num N3.out HT2.out HQ.out).mono ?_); rintro e u5 ⟨v5,rfl,hn5,hb5⟩; obtain ⟨A5,n5,c5,rfl⟩:=hn5.shape; have M5:=qz (M3.out.more hb5); have M5r:=M5.out.rest.cell 0; have M5f:=M5.out.rest.frozen 0; have N5:=qz hn5; have hz5:=M3.out.rest.lt; clear hn5))
      all_goals
       have HM6:=qz (M5.out.put N5.out hz5);clear M5r M5f M5 N5 hz5;go_wp2_with fail;go_roundw
       case rel => exact ⟨l,(l:Int) - 1,by go_num,by omega,by omega,ds.set l lo,_,T - b * lo,by have:=HDL.out; simp; omega,hdd.set (by omega),HV2.out,HR2.out,HM6.out⟩
       case measure => simp [intOf]
  ·
   obtain rfl:k = 0:=by omega
   obtain rfl:j = -1:=by omega
   obtain ⟨A3,n3,c3,hs3⟩:=HM.out.num.shape;obtain rfl:s = .slice A3 n3 c3:=by simpa using hs3
   have HQ:Hid (V xs / b = V ds/\V xs % b = R):=qz (div_end (by have:=HV.out; simpa using this) hRb);have cr:=HM.out.rest.cell 0;have hblk:=(Rd.of_row HM.out.row).keep (w':=wr.drew) fun _ _ => rfl
   have hfar:=HM.out.far;have hlt:=HM.out.rest.lt;clear hs3 HV;go_wp2_with fail
   go_region_held3 (fun w' => w'.cell? ⟨g7,0,none⟩ = some (.slice A3 n3 c3)/\Below w.heap.size w w')
    (first | exact ⟨cr,HM.out.below.drew⟩ | assumption | exact div_keep hS1 (by first | (simp; done) | omega | (simp; omega)) (by first | (simp; done) | omega | (simp; omega)) _ | exact div_keep (div_keep hS1 (by first | (simp; done) | omega | (simp; omega)) (by first | (simp; done) | omega | (simp; omega)) _) (by first | (simp; done) | omega | (simp; omega)) (by first | (simp; done) | omega | (simp; omega)) _)
    (first
     | (go_at_call 72; (with_reducible refine (cut_any _ ds n1 n1 _ HDL.out hblk hdd (by omega) (Nat.le_refl _)).mono ?_); rintro e u1 ⟨v1,rfl,hn1,hb1⟩; obtain ⟨A5,n5,c5,rfl⟩:=hn1.shape; have hq1:=bel_of_drew hb1; have M1:=qz (HM.out.more hq1); have M1a:=M1.out.res1.cell 0; have M1b:=M1.out.res2.cell 0; have M1c:=M1.out.res1.frozen 0; have M1d:=M1.out.res2.frozen 0; have hS1:=div_s M1.out; have N1:=qz hn1; clear hn1))
   all_goals
    go_wp2_with fail
    exact bodyPost_ret (v:=.tuple #[.agg #[.slice A5 n5 c5],.agg #[.slice A3 n3 c3]]) (by simp [results,Tryz.results70,go_sem,M1a,M1b,M1c,M1d]) rfl
     ⟨_,_,rfl,by rw [HQ.out.1]; exact (((N1.out.old (by simp; omega) _).old (by simp; omega) _).more (by have:=HM.out.below.size; simp; omega)),by rw [HQ.out.2]; exact (((M1.out.num.old (by simp; omega) _).old (by simp; omega) _).more (by omega)),(M1.out.below.setCell (by simp; try omega) _).setCell (by simp; try omega) _⟩
theorem div_num {j k:Nat} (v1 v2:Value) (a b L1 L2:Nat) (w:World) (h1:Num w L1 v1 a) (h2:Num w L2 v2 b) (ha:a < 65536 ^ j) (hb:b < 65536 ^ k) (h0:0 < b) (hj:j<=4000:=by omega) (hk:k<=4000:=by omega) :
  Calls Tryz.prog 70 #[v1,v2] w fun e w' => ∃ v1 v2,e = .returned (.tuple #[v1,v2])/\Num w' w.heap.size v1 (a / b)/\Num w' w.heap.size v2 (a % b)/\Below w.heap.size w w':=by
 obtain ⟨A1,xs,n1,c1,rfl,hl1,_,hr1,hc1,e1,hn1⟩:=h1.form ha;obtain ⟨A2,n2,c2,rfl⟩:=h2.shape;have:=div_any A1 xs n1 c1 (.slice A2 n2 c2) b L2 w hl1.out hr1 hc1.1 (by omega) h2 h0 hb hk;rw [e1.out] at this;exact this
theorem info_u32:(Tryz.prog.info? 86).map (fun i => (i.zero,i.size,i.bytes)) = some (some (.int .u32 0),1,4):=by kernel_rfl
def lenV:Value->Nat
 | .slice _ n _ => n
 | _ => 0
theorem shorten_any (A:Option Addr) (xs:List Nat) (n c:Nat) (w:World) (hl:xs.length = n) (hr:Ra w w.heap.size A xs) (hd:Dg xs) (hn:n<=10000000) (hc:n<=c) :
  Calls Tryz.prog 61 #[.slice A n c] w fun e w' => ∃ m,m<=n/\e = .returned (.slice A m c)/\Cn (xs.take m)/\U (xs.take m) = U xs/\w = w':=by
 have HL:=qz hl;clear hl;go_enter Tryz.func61,Tryz.ntmps61;go_wp2
 go_loop [0] (fun v => ∃ m:Nat,m<=n/\v = .slice A m c/\∀ j,m<=j->nth xs j = 0) lenV
 case atStart => exact ⟨n,Nat.le_refl _,rfl,fun j hj => nth_out (by have:=HL.out; omega)⟩
 case round =>
  obtain ⟨m,hm,rfl,hz⟩:=hrel;have HZ:=qz hz;clear hz;by_cases hpos:0 < m
  ·
   obtain ⟨k,rfl⟩:∃ k,m = k + 1:=⟨m - 1,by omega⟩
   obtain ⟨b,o,hA,hb,hcm⟩:=hr.at_ (k:=k) (by have:=HL.out; omega);subst hA;by_cases h0:nth xs k = 0
   ·
    have h0':(((nth xs k:Nat):Int) == 0) = true:=by simp [h0]
    have H0:=qz h0;clear h0;go_wp2
    go_round
    case rel =>
     refine ⟨k,by omega,rfl,fun j hj => ?_⟩;rcases Nat.lt_or_ge k j with h | h
     · exact HZ.out j h
     · rw [show j = k by omega]; exact H0.out
    case measure => simp [lenV]
   ·
    have h0':(((nth xs k:Nat):Int) == 0) = false:=by simp [h0]
    have HC:Hid (Cn (xs.take (k + 1))):=qz (Cn.of_take hd (by have:=HL.out; omega) (fun _ => by simpa using h0));clear h0;go_wp2;go_ret;exact ⟨_,hm,rfl,HC.out,U_zeros xs _ HZ.out,rfl⟩
  ·
   obtain rfl:m = 0:=by omega
   go_wp2;go_ret;exact ⟨_,hm,rfl,by simpa using Cn.nil,U_zeros xs _ HZ.out,rfl⟩
def clTo (xs:List Nat):Nat->Nat
 | 0 => 0
 | n + 1 => if nth xs n = 0 then clTo xs n else n + 1
def cl (xs:List Nat):Nat:=clTo xs xs.length
theorem clTo_spec (xs:List Nat) (n:Nat):clTo xs n<=n/\(∀ j,clTo xs n<=j->j < n->nth xs j = 0)/\(0 < clTo xs n->nth xs (clTo xs n - 1)≠0):=by
 induction n with
 | zero => exact ⟨Nat.le_refl _,fun j _ h => by omega,fun h => by simp [clTo] at h⟩
 | succ n ih =>
  unfold clTo;split
  ·
   next h => exact ⟨by omega,fun j h1 h2 => by
    rcases Nat.lt_or_ge j n with h3 | h3
    · exact ih.2.1 j h1 h3
    · rw [show j = n by omega]; exact h,ih.2.2⟩
  · next h => exact ⟨Nat.le_refl _,fun j h1 h2 => by omega,fun _ => by simpa using h⟩
theorem cl_le (xs:List Nat):cl xs<=xs.length:=(clTo_spec xs xs.length).1
theorem cl_can {xs:List Nat} (h:Dg xs):Cn (xs.take (cl xs)):=Cn.of_take h (cl_le xs) (clTo_spec xs xs.length).2.2
theorem cl_U (xs:List Nat):U (xs.take (cl xs)) = U xs:=U_zeros xs _ fun j hj => by
 rcases Nat.lt_or_ge j xs.length with h | h
 · exact (clTo_spec xs xs.length).2.1 j hj h
 · exact nth_out h
theorem shorten_cl (A:Option Addr) (xs:List Nat) (n c:Nat) (w:World) (hl:xs.length = n) (hr:Ra w w.heap.size A xs) (hd:Dg xs) (hn:n<=10000000) (hc:n<=c) :
  Calls Tryz.prog 61 #[.slice A n c] w fun e w' => e = .returned (.slice A (cl xs) c)/\w = w':=by
 refine (shorten_any A xs n c w hl hr hd hn hc).mono ?_;rintro e w' ⟨m,hm,rfl,hcan,hU,rfl⟩;have:=U_inj hcan (cl_can hd) (hU.trans (cl_U xs).symm);have h2:=congrArg List.length this;have h3:=cl_le xs;simp at h2;obtain rfl:m = cl xs:=by omega
 exact ⟨rfl,rfl⟩
end
section
open Go.RowKit Go.Shelf
attribute [local go_sem] Oper.semAt_some
def benc (xs:List Nat) (N k:Nat):Array Value:=#[.int .i64 ((N - 1 - k:Nat):Int),.int .u32 ((nth xs (N - 1 - k):Nat):Int)]
def bkeep (Bs:Nat) (A:Option Addr) (N k:Nat) (p:Addr):Prop:=p = ⟨Bs,0,none⟩\/∃ b o j,A = some ⟨b,o,none⟩/\j < N - 1 - k/\p = ⟨b,o + j,none⟩
theorem bkeep_lt {w:World} {Bs:Nat} {A:Option Addr} {N:Nat} {xs:List Nat} {B:Nat} (hl:xs.length = N) (hr:Ra w B A xs) (hBs:Bs < B):∀ k p,bkeep Bs A N k p->p.block < B:=by
 intro k p h;rcases h with rfl | ⟨b,o,j,rfl,hj,rfl⟩
 · exact hBs
 ·
  obtain ⟨b',o',h1,h2,_⟩:=hr.at_ (k:=j) (by omega);injection h1 with h1
  injection h1 with h1 _
  subst h1;exact h2
theorem bkeep_ne {w:World} {Bs:Nat} {A:Option Addr} {N:Nat} {xs:List Nat} {B g:Nat} (hl:xs.length = N) (hr:Ra w B A xs) (hg:B<=g) (hBs:Bs≠g):∀ k p,bkeep Bs A N k p->p.block≠g:=by
 intro k p h;rcases h with rfl | ⟨b,o,j,rfl,hj,rfl⟩
 · exact hBs
 ·
  obtain ⟨b',o',h1,h2,_⟩:=hr.at_ (k:=j) (by omega);injection h1 with h1
  injection h1 with h1 _
  subst h1;show b≠g;omega
set_option maxRecDepth 100000 in
theorem backw_goes (F:Fence) (n:Nat) (hf:F.fn 84) (hro:F.round = none) (hn:1<=n) (Bs:Nat) (A:Option Addr) (xs:List Nat) (N c:Nat) (w:World) (hl:xs.length = N) (hr:Ra w w.heap.size A xs) (hN:N<=10000000) (hc:N<=c)
  (hb:w.cell? ⟨Bs,0,none⟩ = some (.slice A N c)) :
  Goes F n Tryz.prog 84 #[.pointer (some ⟨Bs,0,none⟩)] (benc xs N) (bkeep Bs A N) N w:=fun l J Jx W hW _ _ hY h0 => by
 have hBs:=World.block_lt_of_cell? w _ hb;have hb1:=(hW.cell hBs).trans hb;have hr1:=hr.below hW (Nat.le_refl _);clear hb hr;have HL:=qz hl;clear hl;refine callsIn_of_wp Tryz.func84 rfl hf ?_ hro
 simp only [Tryz.ntmps84,List.size_toArray,List.length_cons,List.length_nil,Nat.reduceAdd,Nat.reduceSub,Array.replicate_succ,Array.replicate_zero,List.push_toArray,List.append_toArray,List.nil_append,List.cons_append];gi_wp2
 gi_loopw [3] (fun i wr => ∃ (m:Nat) (j:Int),i = .int .i64 j/\j + 1 = (m:Int)/\m<=N/\J (N - m) wr/\wr.cell? ⟨Bs,0,none⟩ = some (.slice A N c)/\∀ t,t < m->∀ b o,A = some ⟨b,o,none⟩->wr.cell? ⟨b,o + t,none⟩ = some (.int .u32 ((nth xs t:Nat):Int)))
  (fun i _ => (intOf i + 1).toNat)
 case atStart =>
  refine ⟨N,_,rfl,by omega,Nat.le_refl _,by rw [Nat.sub_self]; exact h0,hb1,fun t ht b o hA => ?_⟩;obtain ⟨b',o',h1,_,h2⟩:=hr1.at_ (k:=t) (by have:=HL.out; omega);rw [hA] at h1;injection h1 with h1
  injection h1 with h1 h3
  subst h1 h3;exact h2
 case round =>
  obtain ⟨m,j,rfl,hj,hm,hJ,hbx,hcells⟩:=hrel;have HC:=qz hcells;clear hcells;by_cases hpos:0 < m
  ·
   obtain ⟨q,rfl⟩:∃ q,m = q + 1:=⟨m - 1,by omega⟩
   obtain rfl:j = (q:Int):=by omega
   obtain ⟨b,o,hA,_,_⟩:=hr1.at_ (k:=q) (by have:=HL.out; omega);have hcx:=HC.out q (by omega) b o hA;have hq0:(0:Int)<=(q:Int):=by omega
   have hq1:(q:Int) < (N:Int):=by omega
   obtain ⟨fn,tmps,assign,body,hy,hR⟩:=hY (N - (q + 1)) wr (by omega) hJ;have he:N - 1 - (N - (q + 1)) = q:=by omega
   simp only [benc,he] at hy;have HE:=qz he;clear he;subst hA;gi_wp2;refine hR.mono ?_;rintro e W3 (⟨rfl,hJ3,hk3⟩ | ⟨rfl,hJx3⟩)
   ·
    have HS:Hid (Same (bkeep Bs (some ⟨b,o,none⟩) N (N - (q + 1))) wr W3):=qz hk3;have HJ:=qz hJ3;clear hk3 hJ3 hJ;gi_wp2;go_roundw
    case rel =>
     refine ⟨q,_,rfl,by omega,by omega,by have:=HJ.out; rwa [show N - (q + 1) + 1 = N - q by omega] at this,HS.out.cell _ _ (.inl rfl) hbx,fun t ht b' o' hA => ?_⟩;injection hA with hA
     injection hA with h1 h2
     subst h1 h2;exact HS.out.cell _ _ (.inr ⟨b,o,t,rfl,by have:=HE.out; omega,rfl⟩) (HC.out t (by omega) b o rfl)
    case measure => first | (simp [intOf]; done) | (simp [intOf]; omega)
   ·
    gi_wp2;refine bodyPost_ret (results_none rfl _ _ _) rfl ?_;exact ⟨⟨_,rfl⟩,.inr ⟨_,by omega,hJx3⟩⟩
  ·
   obtain rfl:m = 0:=by omega
   obtain rfl:j = -1:=by omega
   have HJ:Hid (J N wr):=qz (by simpa using hJ);clear hJ;gi_wp2
   go_end0
   exact ⟨⟨_,rfl⟩,.inl HJ.out⟩
theorem backw_in (F:Fence) (n:Nat) (hf:F.fn 63) (hro:F.round = none) (A:Option Addr) (N c:Nat) (w:World) :
  CallsIn F n Tryz.prog 63 #[.slice A N c] w fun e w' => e = .returned (.func (.func 84) #[] #[.pointer (some ⟨w.heap.size,0,none⟩)])/\w.alloc (.cells #[.slice A N c] 44) = w':=by
 refine callsIn_of_wp Tryz.func63 rfl hf ?_ hro;simp only [Tryz.ntmps63,List.size_toArray,List.length_cons,List.length_nil,Nat.reduceAdd,Nat.reduceSub,Array.replicate_succ,Array.replicate_zero,List.push_toArray,List.append_toArray,List.nil_append,List.cons_append];gi_wp2;go_ret;exact ⟨rfl,rfl⟩
theorem backw_calls (A:Option Addr) (N c:Nat) (w:World) :
  Calls Tryz.prog 63 #[.slice A N c] w fun e w' => e = .returned (.func (.func 84) #[] #[.pointer (some ⟨w.heap.size,0,none⟩)])/\w.alloc (.cells #[.slice A N c] 44) = w' :=
 callsIn_wide.1 (backw_in Fence.wide 4 trivial rfl A N c w)
end
section
open Go.RowKit Go.Shelf
attribute [local go_sem] Oper.semAt_some
end
section
open Go.RowKit
set_option maxRecDepth 100000
def Nv (w:World) (L:Nat) (v:Value) (a:Nat):Prop:=∃ A xs n c,v = .slice A n c/\xs.length = n/\n<=c/\Ra w w.heap.size A xs/\Fa L A xs/\Cn xs/\U xs = a
theorem Nv.below {w w':World} {L:Nat} {v:Value} {a:Nat} (h:Nv w L v a) (hb:Below w.heap.size w w'):Nv w' L v a:=by
 obtain ⟨A,xs,n,c,h1,hl,h2,h3,h4,h5,h6⟩:=h;exact ⟨A,xs,n,c,h1,hl,h2,(h3.below hb (Nat.le_refl _)).more hb.size,h4,h5,h6⟩
theorem Nv.more {w:World} {L L':Nat} {v:Value} {a:Nat} (h:Nv w L v a) (hL:L'<=L):Nv w L' v a:=by
 obtain ⟨A,xs,n,c,h1,hl,h2,h3,h4,h5,h6⟩:=h;exact ⟨A,xs,n,c,h1,hl,h2,h3,h4.more hL,h5,h6⟩
theorem Nv.old {w:World} {L:Nat} {v:Value} {a:Nat} (h:Nv w L v a) {p:Addr} (hp:p.block < L) (u:Value):Nv (w.setCell p u) L v a:=by
 obtain ⟨A,xs,n,c,h1,hl,h2,h3,h4,h5,h6⟩:=h;exact ⟨A,xs,n,c,h1,hl,h2,by rw [setCell_size]; exact h3.old h4 hp u,h4,h5,h6⟩
theorem Nv.form {w:World} {L:Nat} {v:Value} {a:Nat} (h:Nv w L v a) {k:Nat} (hk:a < 4294967296 ^ k) :
  ∃ A xs n c,v = .slice A n c/\Hid (xs.length = n)/\n<=c/\Ra w w.heap.size A xs/\Cn xs/\Hid (U xs = a)/\n<=k:=by
 obtain ⟨A,xs,n,c,h1,hl,h2,h3,h4,h5,h6⟩:=h;exact ⟨A,xs,n,c,h1,hl,h2,h3,h5,h6,by have:=h5.len (k:=k) (by omega); omega⟩
theorem Nv.shape {w:World} {L:Nat} {v:Value} {a:Nat} (h:Nv w L v a):∃ A n c,v = .slice A n c:=by
 obtain ⟨A,xs,n,c,h1,_⟩:=h;exact ⟨A,n,c,h1⟩
def RetNv (w:World) (a:Nat) (e:Ending) (w':World):Prop:=∃ v,e = .returned v/\Nv w' w.heap.size v a/\Below w.heap.size w w'
theorem Ra.lit (w:World) (t:TypeId) (xs:List Nat):Ra (w.alloc (.cells (u32s xs).toArray t)) (w.heap.size + 1) (some ⟨w.heap.size,0,none⟩) xs:=fun _ =>
 ⟨w.heap.size,0,rfl,by omega,fun k hk => by
  rw [(Blk.new w t (u32s xs).toArray).cell (0 + k),Nat.zero_add]
  simpa using u32s_get hk⟩
theorem natOf_any (a:Nat) (w:World) (ha:a < 18446744073709551616):Calls Tryz.prog 59 #[.int .u64 (a:Int)] w (RetNv w a):=by
 have h1:IntKind.u32.wrap (a:Int) = ((a % 4294967296:Nat):Int):=by simp [IntKind.wrap,IntKind.bits,IntKind.signed]
 have h2:IntKind.u32.wrap ((a:Int) / 4294967296) = ((a / 4294967296:Nat):Int):=by rw [IntWalk.u32_in _ (by omega)]; omega
 have hr:=Ra.lit w 86 [a % 4294967296,a / 4294967296];have hd:Dg [a % 4294967296,a / 4294967296]:=by intro d hd; simp at hd; omega
 have hu:U [a % 4294967296,a / 4294967296] = a:=by simp only [U]; omega
 have HU:=qz hu;have H1:=qz h1;have H2:=qz h2;clear hu h1 h2;go_enter Tryz.func59,Tryz.ntmps59;go_wp2_with fail
 have hr':Ra (w.alloc (.cells #[.int .u32 ((a:Int) % 4294967296),.int .u32 ((a:Int) / 4294967296)] 86)) (w.alloc (.cells #[.int .u32 ((a:Int) % 4294967296),.int .u32 ((a:Int) / 4294967296)] 86)).heap.size (some ⟨w.heap.size,0,none⟩) [a % 4294967296,a / 4294967296]:=by
  simpa [u32s] using hr
 refine (shorten_any _ _ 2 2 _ (by rfl) hr' hd (by omega) (by omega)).mono ?_;rintro e w' ⟨m,hm,rfl,hcan,hU,rfl⟩;have HCan:=qz hcan;have HUU:=qz (hU.trans HU.out);clear hcan hU;go_wp2_with fail;go_ret
 refine ⟨_,rfl,⟨_,[a % 4294967296,a / 4294967296].take m,m,2,rfl,by simp; omega,hm,hr'.take m,fun _ => ⟨_,_,rfl,Nat.le_refl _⟩,HCan.out,HUU.out⟩,(Below.refl _ _).alloc (Nat.le_refl _) _⟩
def Ow (w:World) (B:Nat) (v:Value) (n:Nat) (xs:List Nat):Prop:=w.ownsRow B 86 1 v n (u32s xs)
theorem Ow.len {w:World} {B:Nat} {v:Value} {n:Nat} {xs:List Nat} (h:Ow w B v n xs):xs.length = n:=by have:=h.1; rw [u32s_length] at this; omega
theorem Ow.form {w:World} {B:Nat} {v:Value} {n:Nat} {xs:List Nat} (h:Ow w B v n xs):∃ A c,v = .slice A n c/\n<=c:=ownsRow_form w h
theorem Ow.below {w w':World} {B:Nat} {v:Value} {n:Nat} {xs:List Nat} (h:Ow w B v n xs) (hb:Below w.heap.size w w'):Ow w' B v n xs:=by
 have hlt:=World.ownsRow.lt h;obtain ⟨h1,h2⟩:=h;refine ⟨h1,?_⟩;rcases h2 with h2 | ⟨g,cap,cur,rfl,hg,hh,r⟩
 · exact .inl h2
 · exact .inr ⟨g,cap,cur,rfl,hg,by rw [hb.block g (hlt g rfl).2]; exact hh,r⟩
theorem Ow.more {w:World} {B B':Nat} {v:Value} {n:Nat} {xs:List Nat} (h:Ow w B v n xs) (hB:B'<=B):Ow w B' v n xs:=by
 obtain ⟨h1,h2⟩:=h;refine ⟨h1,?_⟩;rcases h2 with h2 | ⟨g,cap,cur,rfl,hg,hh,r⟩
 · exact .inl h2
 · exact .inr ⟨g,cap,cur,rfl,by omega,hh,r⟩
theorem Ow.take {w:World} {B:Nat} {A:Option Addr} {n c:Nat} {xs:List Nat} (h:Ow w B (.slice A n c) n xs) {m:Nat} (hm:m<=n):Ow w B (.slice A m c) m (xs.take m):=by
 have hl:=h.len;obtain ⟨h1,h2⟩:=h;refine ⟨by rw [u32s_length]; simp; omega,?_⟩;rcases h2 with ⟨h2,h3⟩ | ⟨g,cap,cur,hv,hg,hh,hn,hc,hsz,ht⟩
 ·
  injection h2 with h4 h5 h6
  subst h4 h5 h6;obtain rfl:m = 0:=by omega
  exact .inl ⟨rfl,rfl⟩
 ·
  injection hv with h4 h5 h6
  subst h4 h6;refine .inr ⟨g,c,cur,rfl,hg,hh,by omega,hc,hsz,?_⟩;have e:u32s (xs.take m) = (u32s xs).take m:=by simp [u32s,List.map_take]
  rw [e,<- ht,List.take_take,Nat.min_eq_left (by simp; omega),Nat.mul_one]
theorem Ow.reads {w:World} {B:Nat} {A:Option Addr} {n c:Nat} {xs:List Nat} (h:Ow w B (.slice A n c) n xs):Ra w w.heap.size A xs/\Fa B A xs:=⟨Ra.of_own h,Fa.of_own h⟩
theorem Ow.nv {w:World} {B:Nat} {A:Option Addr} {n c:Nat} {xs:List Nat} (h:Ow w B (.slice A n c) n xs) (hc:n<=c) (hcan:Cn xs):Nv w B (.slice A n c) (U xs) :=
 ⟨A,xs,n,c,rfl,h.len,hc,h.reads.1,h.reads.2,hcan,rfl⟩
theorem Ow.nil (w:World) (B:Nat):Ow w B (.slice none 0 0) 0 []:=World.ownsRow_nil _ _ _ _
def RetOw (w:World) (xs:List Nat) (e:Ending) (w':World):Prop:=∃ v,e = .returned v/\Ow w' w.heap.size v xs.length xs/\Below w.heap.size w w'
theorem nil_is:∀ (n c:Nat) (w:World),(binOp .eql 44 (.slice none n c) (.slice none 0 0)).run Tryz.prog w = .ok (.bool true) w:=fun _ _ _ => by kernel_rfl
theorem nil_not:∀ (a:Addr) (n c:Nat) (w:World),(binOp .eql 44 (.slice (some a) n c) (.slice none 0 0)).run Tryz.prog w = .ok (.bool false) w:=fun _ _ _ _ => by kernel_rfl
theorem clone_done {w w1:World} {A':Option Addr} {c' n':Nat} {xs:List Nat} (hl:([] ++ xs).length = n') (hown:w1.ownsRow w.heap.size 86 1 (.slice A' n' c') n' (u32s ([] ++ xs)))
  (hg:(w.alloc (.cells #[] 86)).grownBy w1 (Value.slice (some ⟨w.heap.size,0,none⟩) 0 0).ownBlock):RetOw w xs (.returned (.slice A' n' c')) w1:=by
 rw [List.nil_append] at hl hown;subst hl;exact ⟨_,rfl,hown,((Below.refl _ _).alloc (Nat.le_refl _) _).grown hg (by simp) (by intro k hk; simp [Value.ownBlock] at hk; omega)⟩
theorem clone_any (A:Option Addr) (xs:List Nat) (n c:Nat) (w:World) (hl:xs.length = n) (hr:Ra w w.heap.size A xs) (hn:n<=10000000) :
  Calls Tryz.prog 114 #[.slice A n c] w (RetOw w xs):=by
 have HL:=qz hl;have hni:=nil_is;have hnn:=nil_not;clear hl
 cases A with
 | none =>
  obtain rfl:xs = []:=by
   rcases xs with _ | ⟨y,r⟩
   · rfl
   ·
    obtain ⟨_,_,h,_⟩:=hr (by simp);cases h
  obtain rfl:n = 0:=by simpa using HL.out.symm
  go_enter Tryz.func114,Tryz.ntmps114;go_wp2;go_ret
  exact ⟨_,rfl,Ow.nil _ _,Below.refl _ _⟩
 | some ad =>
  have HO:Hid ((w.alloc (.cells #[] 86)).ownsRow w.heap.size 86 1 (.slice (some ⟨w.heap.size,0,none⟩) 0 0) ([]:List Nat).length (u32s [])) :=
   qz (by have:=World.ownsRow_made (base:=w.heap.size) (e:=86) (size:=1) w #[] 0 (by simp) (by decide) rfl; simpa [u32s] using this)
  have HR:=qz (hr.alloc (Nat.le_refl _) (.cells #[] 86));go_enter Tryz.func114,Tryz.ntmps114
  go_wp2_with (at_builtin; go_loud (refine wpList_append_u32s _ rfl (.tmp 5) (.tmp 6) 44 rfl w.heap.size 86 Tryz.underlying44 info_u32 (.slice (some ⟨w.heap.size,0,none⟩) 0 0) [] rfl HO.out w.heap.size (some ad) n xs _ HL.out rfl HR.out (by have:=HL.out; simp; omega) (by simp) ?_); intro A' n' c' w1 hl1 hc1 hown1 hg1);go_ret
  exact clone_done hl1.out hown1.out hg1
end
end Go.Proofs.YtkdmnlihpebbkaaGreat
