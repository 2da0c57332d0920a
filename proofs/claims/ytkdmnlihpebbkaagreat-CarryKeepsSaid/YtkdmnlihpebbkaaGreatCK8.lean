import Derived.Test.YtkdmnlihpebbkaaGreatCK7
import Derived.IntWalk
import Derived.Deep.RegionLaw
import Derived.Deep.CutBlock
import Derived.Lib.BufferOwn
import Derived.RangeFuncKeeps
set_option linter.all false
set_option maxHeartbeats 4000000
namespace Go.Proofs.YtkdmnlihpebbkaaGreat
section
open Go.RowKit
set_option maxRecDepth 100000
noncomputable def wtv18 (S:Sv14) (w:Nat->Rat) (k:Nat):Rat:=if cntb17 S k = true then (if (gt14 S.T k).c = 0 then ((gt14 S.T k).a:Rat) else ((gt14 S.T k).a:Rat) / ((amt17 S (gt14 S.T k).c S.T.length:Int):Rat) * w (gt14 S.T k).c.toNat) else 0
noncomputable def wcv18 (S:Sv14) (w:Nat->Rat) (c:Nat):Rat:=if c = 0 then ((amt17 S 0 S.T.length:Int):Rat) else sumR (fun k => if (gt14 S.T k).u = true/\(gt14 S.T k).k = 2/\(gt14 S.T k).t = (c:Int) then wtv18 S w k else 0) S.T.length
noncomputable def wcf18 (S:Sv14):Nat->Nat->Rat
 | 0,_ => 0
 | d + 1,c => wcv18 S (wcf18 S d) c
theorem wtv18_congr {S:Sv14} {w w':Nat->Rat} {k:Nat} (h:w (gt14 S.T k).c.toNat = w' (gt14 S.T k).c.toNat):wtv18 S w k = wtv18 S w' k:=by
 unfold wtv18;rw [h]
theorem wcv18_congr {S:Sv14} (hf:Fine14 S) {D:Nat->Nat} (hD:Dep13 (Ca15 S) D) {w w':Nat->Rat} {c:Nat} (h:∀ b,D b < D c->w b = w' b):wcv18 S w c = wcv18 S w' c:=by
 unfold wcv18;split
 · rfl
 ·
  refine sumR_congr (fun k hk => ?_);split
  ·
   next h1 =>
   have hT:Tickets14 S:=hf.2.2.2.2.1;have ht:=hT k hk h1.1;have hu:=us15_lt ht.1
   have hto:us14 usC S.C (gt14 S.T k).t = true:=by
    rcases ht.2.2.2 with h4 | h4 | h4
    · rw [h1.2.1] at h4; exact absurd h4.1 (by decide)
    · rw [h1.2.1] at h4; exact absurd h4.1 (by decide)
    · exact h4.2.2
   rw [h1.2.2] at hto;have hc:=us15_lt hto;refine wtv18_congr (h _ ?_);have h2:=hD.up (gt14 S.T k).c.toNat c (ca15_mem.2 ⟨⟨k,⟨hk,h1.1,h1.2.1,h1.2.2⟩,by omega⟩,by omega,by omega⟩);omega
  · rfl
theorem wcf18_more {S:Sv14} (hf:Fine14 S) {D:Nat->Nat} (hD:Dep13 (Ca15 S) D):∀ d c,D c < d->wcf18 S d c = wcf18 S (d + 1) c
 | 0,c,h => by omega
 | d + 1,c,h => by
  rw [wcf18,wcf18];exact wcv18_congr hf hD (fun b hb => wcf18_more hf hD d b (by omega))
theorem wo18_ex {S:Sv14} (hf:Fine14 S):∃ wC wT,Wo18 S wC wT:=by
 obtain ⟨os,hd,hl⟩:Free14R S.C.length (cArr14 S S.T.length):=hf.2.2.2.2.2.2.2.2.1;obtain ⟨D,hD,hn⟩:=dep13_ex (A:=Ca15 S) (in13_cut _ _) hd.1 hl;refine ⟨wcf18 S (S.C.length + 1),wtv18 S (wcf18 S (S.C.length + 1)),fun k => rfl,fun c => ?_⟩;rw [wcf18_more hf hD _ c (by have:=hn c; omega)];rfl
def InC19 (S:Sv14) (x e:Nat):Prop:=x = e\/Way (Ta16 S) x e
open Classical in
noncomputable def inc19 (S:Sv14) (x e:Nat):Bool:=decide (InC19 S x e)
theorem inc19_yes {S:Sv14} {x e:Nat}:inc19 S x e = true↔InC19 S x e:=by
 unfold inc19;exact @decide_eq_true_iff _ (Classical.propDecidable _)
def go19 (S:Sv14) (e:Nat):Prop:=(gt14 S.H e).s = 2\/(gt14 S.H e).s = 3
instance (S:Sv14) (e:Nat):Decidable (go19 S e):=by unfold go19; infer_instance
theorem go19_next {S:Sv14} {e:Nat} (h:go19 S e):nxt16 S (e:Int) = -1:=by
 have hu:us14 usH S.H (e:Int) = true:=by
  rw [us14_nat,usH];rcases h with h | h <;> rw [h] <;> rfl
 rw [nxt16,at14_yes hu,Int.toNat_natCast];rcases h with h | h <;> rw [h] <;> rfl
theorem go19_end {S:Sv14} (hf:Fine14 S) {x e:Nat} {l:List Nat} (hx:x < S.H.length) (hc:Chn16 S x l) (he:go19 S e):InC19 S x e↔e = lst16 l:=by
 have h1:=hc.way hf hx e;constructor
 ·
  intro h;have hm:e∈l:=h1.2 (h.imp Eq.symm id);have h2:=hc.ends hm (.one (go19_next he));rw [<- h2];rfl
 ·
  intro h;rcases h1.1 (by rw [h]; exact hc.end_.2) with h3 | h3
  · exact .inl h3.symm
  · exact .inr h3
noncomputable def car19 (S:Sv14) (w:Nat->Rat) (e:Nat):Rat:=sumR (fun x => if inc19 S x e = true then w x else 0) S.H.length
theorem car19_total {S:Sv14} (hf:Fine14 S) {w:Nat->Rat} (hw:∀ x,x < S.H.length->w x≠0->Liv16 S (x:Int)):sumR (fun e => if go19 S e then car19 S w e else 0) S.H.length = sumR w S.H.length:=by
 have h1:sumR (fun e => if go19 S e then car19 S w e else 0) S.H.length = sumR (fun e => sumR (fun x => if go19 S e/\inc19 S x e = true then w x else 0) S.H.length) S.H.length:=by
  refine sumR_congr (fun e _ => ?_);by_cases h:go19 S e
  ·
   rw [if_pos h];exact sumR_congr (fun x _ => by simp [h])
  ·
   rw [if_neg h];exact (sumR_all (fun x _ => by simp [h])).symm
 rw [h1,sumR_swap];refine sumR_congr (fun x hx => ?_);by_cases hv:w x = 0
 ·
  rw [hv];exact sumR_all (fun e _ => by split <;> rfl)
 ·
  obtain ⟨k,l,h2,h3,h4,h5⟩:=hw x hx hv;obtain rfl:k = x:=by omega
  have hend:lst16 l < S.H.length:=by
   have h6:=ush16_lt (h4.used hf h3 _ h4.end_.2);omega
  have h7:=sumR_one (x:=lst16 l) (w k) S.H.length;rw [if_pos hend] at h7;rw [<- h7];refine sumR_congr (fun e _ => ?_);rw [h7];by_cases he:e = lst16 l
  ·
   have hg:go19 S e:=by rw [he]; exact h5
   rw [if_pos ⟨hg,inc19_yes.2 ((go19_end hf hx h4 hg).2 he)⟩,if_pos he]
  · rw [if_neg (fun h => he ((go19_end hf hx h4 h.1).1 (inc19_yes.1 h.2))),if_neg he]
theorem th18_lives {S:Sv14} {wC wT:Nat->Rat} (h:Wo18 S wC wT) {i:Nat} (hi:th18 S wT i≠0):Liv16 S (i:Int):=by
 refine Classical.byContradiction (fun hn => hi ?_);refine sumR_all (fun k _ => ?_);split
 ·
  next h1 =>
  refine Classical.byContradiction (fun hv => ?_);rcases (cnt17_iff.1 (h.counts hv)).2.2.2 with ⟨_,h3⟩ | ⟨h3,_⟩
  ·
   rw [h1.2.2] at h3;exact hn h3
  ·
   rw [h1.2.1] at h3;exact absurd h3 (by decide)
 · rfl
theorem Wo18.carry {S:Sv14} {wC wT:Nat->Rat} (h:Wo18 S wC wT) (hf:Fine14 S):sumR (fun e => if go19 S e then car19 S (th18 S wT) e else 0) S.H.length = ((amt17 S 0 S.T.length:Int):Rat):=by
 rw [car19_total hf (fun x _ hx => th18_lives h hx),h.keeps hf]
theorem rat18_cast (i:Int) (h:0<=i):((i:Int):Rat) = ((i.toNat:Nat):Rat):=by
 obtain ⟨k,rfl⟩:∃ k:Nat,i = (k:Int):=⟨i.toNat,by omega⟩
 rw [Int.toNat_natCast];rfl
theorem rat18_le1 (a b:Rat) (hb:0 < b) (h:a<=b):a / b<=1:=by
 refine Rat.not_lt.1 (fun h1 => ?_);have h2:=Rat.mul_lt_mul_of_pos_right h1 hb;have h3:a / b * b = a:=by grind
 grind
theorem rat18_div (a b:Rat) (h:0<=a) (hb:0 < b):0<=a / b:=by
 refine Rat.not_lt.1 (fun h1 => ?_);have h2:=Rat.mul_lt_mul_of_pos_right h1 hb;have h3:a / b * b = a:=by grind
 grind
def Prt18 (P:Nat) (x:Rat):Prop:=∃ N:Nat,x * (P:Rat) = (N:Rat)
theorem Prt18.zero (P:Nat):Prt18 P 0:=⟨0,by simp⟩
theorem Prt18.nat (P n:Nat):Prt18 P (n:Rat):=⟨n * P,by push_cast; rfl⟩
theorem Prt18.add {P:Nat} {x y:Rat} (h:Prt18 P x) (g:Prt18 P y):Prt18 P (x + y):=by
 obtain ⟨N,h⟩:=h;obtain ⟨M,g⟩:=g;refine ⟨N + M,?_⟩;have e:((N + M:Nat):Rat) = (N:Rat) + (M:Rat):=by push_cast; rfl
 grind
theorem Prt18.mono {P P':Nat} {x:Rat} (h:Prt18 P x) (hd:P ∣ P'):Prt18 P' x:=by
 obtain ⟨N,h⟩:=h;obtain ⟨k,rfl⟩:=hd;refine ⟨N * k,?_⟩;have e:((N * k:Nat):Rat) = (N:Rat) * (k:Rat):=by push_cast; rfl
 have e2:((P * k:Nat):Rat) = (P:Rat) * (k:Rat):=by push_cast; rfl
 grind
theorem Prt18.part {P:Nat} {x:Rat} (h:Prt18 P x) (a A:Nat) (hA:0 < A):Prt18 (P * A) ((a:Rat) / (A:Rat) * x):=by
 obtain ⟨N,h⟩:=h;refine ⟨a * N,?_⟩;have e:((a * N:Nat):Rat) = (a:Rat) * (N:Rat):=by push_cast; rfl
 have e2:((P * A:Nat):Rat) = (P:Rat) * (A:Rat):=by push_cast; rfl
 have h0:(A:Rat)≠0:=fun e => by
  have:A = 0:=by exact_mod_cast e
  omega
 grind
theorem Prt18.sum {P:Nat} {f:Nat->Rat}:∀ {n:Nat},(∀ k,k < n->Prt18 P (f k))->Prt18 P (sumR f n)
 | 0,_ => Prt18.zero P
 | n + 1,h => (Prt18.sum (n:=n) (fun k hk => h k (by omega))).add (h n (by omega))
def prd18 (f:Nat->Nat):Nat->Nat
 | 0 => 1
 | n + 1 => prd18 f n * f n
theorem prd18_dvd {f g:Nat->Nat} {n:Nat} (h:∀ k,k < n->f k ∣ g k):prd18 f n ∣ prd18 g n:=by
 induction n with
 | zero => exact Nat.dvd_refl _
 | succ n ih => exact Nat.mul_dvd_mul (ih (fun k hk => h k (by omega))) (h n (by omega))
theorem prd18_one {f g:Nat->Nat} {n c a:Nat} (hc:c < n) (h:∀ k,k < n->k≠c->f k ∣ g k) (ha:f c * a ∣ g c):prd18 f n * a ∣ prd18 g n:=by
 induction n with
 | zero => omega
 | succ n ih =>
  rw [prd18,prd18];by_cases e:c = n
  ·
   subst e;rw [Nat.mul_assoc];exact Nat.mul_dvd_mul (prd18_dvd (fun k hk => h k (by omega) (by omega))) ha
  ·
   have h1:=ih (by omega) (fun k hk => h k (by omega));have h2:=h n (by omega) (by omega);have h3:=Nat.mul_dvd_mul h1 h2
   rwa [Nat.mul_right_comm] at h3
theorem prd18_pos {f:Nat->Nat} {n:Nat} (h:∀ k,k < n->0 < f k):0 < prd18 f n:=by
 induction n with
 | zero => exact Nat.one_pos
 | succ n ih => exact Nat.mul_pos (ih (fun k hk => h k (by omega))) (h n (by omega))
theorem prd18_le {f:Nat->Nat} {n B:Nat} (h:∀ k,k < n->f k<=B):prd18 f n<=B ^ n:=by
 induction n with
 | zero => exact Nat.le_refl _
 | succ n ih =>
  rw [prd18,Nat.pow_succ];exact Nat.mul_le_mul (ih (fun k hk => h k (by omega))) (h n (by omega))
noncomputable def am18 (S:Sv14) (c:Nat):Nat:=if 0 < amt17 S (c:Int) S.T.length then (amt17 S (c:Int) S.T.length).toNat else 1
theorem am18_pos (S:Sv14) (c:Nat):0 < am18 S c:=by
 unfold am18;split <;> omega
theorem am18_le {S:Sv14} (hf:Fine14 S) (c:Nat):am18 S c<=134217728:=by
 have h1:=amt17_bound hf.2.2.2.2.1 (c:Int) S.T.length;have h2:S.T.length<=96:=hf.2.2.1.2.1.1;unfold am18;split
 · omega
 · omega
noncomputable def pd18 (S:Sv14) (D:Nat->Nat) (d:Nat):Nat:=prd18 (fun c => if D c < d then am18 S c else 1) S.C.length
noncomputable def pa18 (S:Sv14):Nat:=prd18 (am18 S) S.C.length
theorem pd18_all (S:Sv14) (D:Nat->Nat) (d:Nat):pd18 S D d ∣ pa18 S:=prd18_dvd (fun k _ => by
 split
 · exact Nat.dvd_refl _
 · exact Nat.one_dvd _)
theorem pd18_mono (S:Sv14) (D:Nat->Nat) {d e:Nat} (h:d<=e):pd18 S D d ∣ pd18 S D e:=prd18_dvd (fun k _ => by
 by_cases h1:D k < d
 ·
  rw [if_pos h1,if_pos (by omega)];exact Nat.dvd_refl _
 ·
  rw [if_neg h1]
  exact Nat.one_dvd _)
theorem pd18_next (S:Sv14) (D:Nat->Nat) {c:Nat} (hc:c < S.C.length):pd18 S D (D c) * am18 S c ∣ pd18 S D (D c + 1):=prd18_one hc (fun k _ _ => by
 by_cases h1:D k < D c
 ·
  rw [if_pos h1,if_pos (by omega)];exact Nat.dvd_refl _
 ·
  rw [if_neg h1]
  exact Nat.one_dvd _) (by rw [if_neg (by omega),if_pos (by omega),Nat.one_mul]; exact Nat.dvd_refl _)
theorem pa18_pos (S:Sv14):0 < pa18 S:=prd18_pos (fun k _ => am18_pos S k)
theorem pa18_le {S:Sv14} (hf:Fine14 S):pa18 S<=134217728 ^ 16:=by
 have h1:S.C.length<=16:=hf.2.2.1.1.1;exact Nat.le_trans (prd18_le (fun k _ => am18_le hf k)) (Nat.pow_le_pow_right (by omega) h1)
theorem Wo18.prt_t {S:Sv14} {wC wT:Nat->Rat} (h:Wo18 S wC wT) (hf:Fine14 S) {D:Nat->Nat} {k c:Nat} (hk:(gt14 S.T k).c = (c:Int)) (hc:Prt18 (pd18 S D (D c)) (wC c)):Prt18 (pd18 S D (D c + 1)) (wT k):=by
 have hT:Tickets14 S:=hf.2.2.2.2.1;by_cases hn:Cnt17 S k
 ·
  have hl:=hn.lt;have ht:=hT k hl.1 hl.2;have ha:((gt14 S.T k).a:Rat) = (((gt14 S.T k).a.toNat:Nat):Rat):=rat18_cast _ (by have:=ht.2.1; omega);rw [h.t,if_pos (cntb17_yes.2 hn),ha];by_cases h0:(gt14 S.T k).c = 0
  ·
   rw [if_pos h0];exact Prt18.nat _ _
  ·
   rw [if_neg h0,hk,Int.toNat_natCast];have hp:0 < amt17 S (c:Int) S.T.length:=(amt17_all hT (c:Int)).2 ⟨k,hk,hn⟩;have hA:am18 S c = (amt17 S (c:Int) S.T.length).toNat:=if_pos hp;rw [rat18_cast _ (Int.le_of_lt hp),<- hA]
   have hcl:c < S.C.length:=by
    have h1:=us15_lt ht.1;rw [hk] at h1;omega
   exact (hc.part _ _ (am18_pos S c)).mono (pd18_next S D hcl)
 ·
  rw [h.none hn];exact Prt18.zero _
theorem Wo18.prt_c {S:Sv14} {wC wT:Nat->Rat} (h:Wo18 S wC wT) (hf:Fine14 S) {D:Nat->Nat} (hD:Dep13 (Ca15 S) D):∀ (d c:Nat),D c<=d->Prt18 (pd18 S D (D c)) (wC c):=by
 have hT:Tickets14 S:=hf.2.2.2.2.1;intro d
 induction d with
 | zero =>
  intro c hc;rw [h.c];split
  ·
   rw [rat18_cast _ (amt17_bound hT 0 S.T.length).1];exact Prt18.nat _ _
  ·
   refine Prt18.sum (fun k hk => ?_);split
   ·
    next h1 =>
    exfalso;have ht:=hT k hk h1.1;have hu:=us15_lt ht.1
    have hto:us14 usC S.C (gt14 S.T k).t = true:=by
     rcases ht.2.2.2 with h4 | h4 | h4
     · rw [h1.2.1] at h4; exact absurd h4.1 (by decide)
     · rw [h1.2.1] at h4; exact absurd h4.1 (by decide)
     · exact h4.2.2
    rw [h1.2.2] at hto;have hcu:=us15_lt hto;have h2:=hD.up (gt14 S.T k).c.toNat c (ca15_mem.2 ⟨⟨k,⟨hk,h1.1,h1.2.1,h1.2.2⟩,by omega⟩,by omega,by omega⟩);omega
   · exact Prt18.zero _
 | succ d ih =>
  intro c hc;rw [h.c];split
  ·
   rw [rat18_cast _ (amt17_bound hT 0 S.T.length).1];exact Prt18.nat _ _
  ·
   refine Prt18.sum (fun k hk => ?_);split
   ·
    next h1 =>
    have ht:=hT k hk h1.1;have hu:=us15_lt ht.1
    have hto:us14 usC S.C (gt14 S.T k).t = true:=by
     rcases ht.2.2.2 with h4 | h4 | h4
     · rw [h1.2.1] at h4; exact absurd h4.1 (by decide)
     · rw [h1.2.1] at h4; exact absurd h4.1 (by decide)
     · exact h4.2.2
    rw [h1.2.2] at hto;have hcu:=us15_lt hto;obtain ⟨b,hb⟩:∃ b:Nat,(gt14 S.T k).c = (b:Int):=⟨(gt14 S.T k).c.toNat,by omega⟩
    have h2:=hD.up b c (ca15_mem.2 ⟨⟨k,⟨hk,h1.1,h1.2.1,h1.2.2⟩,by omega⟩,by omega,by omega⟩);exact (h.prt_t hf hb (ih b (by omega))).mono (pd18_mono S D h2)
   · exact Prt18.zero _
theorem am18_one {S:Sv14} (hT:Tickets14 S) {c:Int} {k n:Nat} (hk:k < n) (hc:(gt14 S.T k).c = c) (hn:Cnt17 S k):(gt14 S.T k).a<=amt17 S c n:=by
 induction n with
 | zero => omega
 | succ n ih =>
  rw [amt17];have h0:=(amt17_bound hT c n).1;rcases (show k < n\/k = n by omega) with h1 | rfl
  ·
   have h2:=ih h1;split
   ·
    next h3 =>
    have h4:=(cntb17_yes.1 h3.2).lt;have:=(hT n h4.1 h4.2).2.1;omega
   · omega
  ·
   rw [if_pos ⟨hc,cntb17_yes.2 hn⟩];omega
theorem sumR18_le {f:Nat->Rat} {x:Rat}:∀ {n:Nat},(∀ k,k < n->f k<=x)->sumR f n<=(n:Rat) * x
 | 0,_ => by simp [sumR]
 | n + 1,h => by
  have h1:=sumR18_le (n:=n) (fun k hk => h k (by omega));have h2:=h n (by omega);have e:((n + 1:Nat):Rat) = (n:Rat) + 1:=by push_cast; rfl
  rw [sumR,e]
  grind
theorem sumR18_pos {f:Nat->Rat}:∀ {n:Nat},(∀ k,k < n->0<=f k)->0<=sumR f n
 | 0,_ => by simp [sumR]
 | n + 1,h => by
  have h1:=sumR18_pos (n:=n) (fun k hk => h k (by omega));have h2:=h n (by omega);rw [sumR]
  grind
theorem Wo18.le_t {S:Sv14} {wC wT:Nat->Rat} (h:Wo18 S wC wT) (hf:Fine14 S) {k c:Nat} (hk:(gt14 S.T k).c = (c:Int)) (hc:0<=wC c):0<=wT k/\wT k<=wC c:=by
 have hT:Tickets14 S:=hf.2.2.2.2.1;by_cases hn:Cnt17 S k
 ·
  have hl:=hn.lt;have ht:=hT k hl.1 hl.2;have ha:((gt14 S.T k).a:Rat) = (((gt14 S.T k).a.toNat:Nat):Rat):=rat18_cast _ (by have:=ht.2.1; omega);have hle:=am18_one hT hl.1 hk hn;have hp:0 < amt17 S (c:Int) S.T.length:=by have:=ht.2.1; omega
  have hle2:(((gt14 S.T k).a.toNat:Nat):Rat)<=(((amt17 S (c:Int) S.T.length).toNat:Nat):Rat):=by
   have:(gt14 S.T k).a.toNat<=(amt17 S (c:Int) S.T.length).toNat:=by omega
   exact_mod_cast this
  have ha0:(0:Rat)<=(((gt14 S.T k).a.toNat:Nat):Rat):=by exact_mod_cast Nat.zero_le _
  have hp2:(0:Rat) < (((amt17 S (c:Int) S.T.length).toNat:Nat):Rat):=by
   have:0 < (amt17 S (c:Int) S.T.length).toNat:=by omega
   exact_mod_cast this
  rw [h.t,if_pos (cntb17_yes.2 hn),ha];by_cases h0:(gt14 S.T k).c = 0
  ·
   rw [if_pos h0];obtain rfl:c = 0:=by omega
   rw [h.c 0,if_pos rfl];rw [show amt17 S ((0:Nat):Int) S.T.length = amt17 S 0 S.T.length from rfl] at hle2 hp;rw [rat18_cast _ (Int.le_of_lt hp)];exact ⟨ha0,hle2⟩
  ·
   rw [if_neg h0,hk,Int.toNat_natCast,rat18_cast _ (Int.le_of_lt hp)];have h1:=rat18_le1 _ _ hp2 hle2;have h2:=rat18_div _ _ ha0 hp2;refine ⟨Rat.mul_nonneg h2 hc,?_⟩;have h3:=Rat.mul_le_mul_of_nonneg_right h1 hc
   grind
 ·
  rw [h.none hn];exact ⟨by grind,hc⟩
theorem Wo18.le_c {S:Sv14} {wC wT:Nat->Rat} (h:Wo18 S wC wT) (hf:Fine14 S) {D:Nat->Nat} (hD:Dep13 (Ca15 S) D):∀ (d c:Nat),D c<=d->0<=wC c/\wC c<=((96 ^ d * 134217728:Nat):Rat):=by
 have hT:Tickets14 S:=hf.2.2.2.2.1;have hn96:S.T.length<=96:=hf.2.2.1.2.1.1
 have hb:∀ d,(0:Rat)<=((amt17 S 0 S.T.length:Int):Rat)/\((amt17 S 0 S.T.length:Int):Rat)<=((96 ^ d * 134217728:Nat):Rat):=by
  intro d;have h1:=amt17_bound hT 0 S.T.length;rw [rat18_cast _ h1.1];refine ⟨by exact_mod_cast Nat.zero_le _,?_⟩;have h2:(amt17 S 0 S.T.length).toNat<=1 * 134217728:=by omega
  have h3:(amt17 S 0 S.T.length).toNat<=96 ^ d * 134217728:=Nat.le_trans h2 (Nat.mul_le_mul_right _ (Nat.one_le_pow _ _ (by omega)))
  exact_mod_cast h3
 have hup:∀ {k c:Nat},k < S.T.length->((gt14 S.T k).u = true/\(gt14 S.T k).k = 2/\(gt14 S.T k).t = (c:Int))->∃ b:Nat,(gt14 S.T k).c = (b:Int)/\D b + 1<=D c:=by
  intro k c hk h1;have ht:=hT k hk h1.1;have hu:=us15_lt ht.1
  have hto:us14 usC S.C (gt14 S.T k).t = true:=by
   rcases ht.2.2.2 with h4 | h4 | h4
   · rw [h1.2.1] at h4; exact absurd h4.1 (by decide)
   · rw [h1.2.1] at h4; exact absurd h4.1 (by decide)
   · exact h4.2.2
  rw [h1.2.2] at hto;have hcu:=us15_lt hto;obtain ⟨b,hb⟩:∃ b:Nat,(gt14 S.T k).c = (b:Int):=⟨(gt14 S.T k).c.toNat,by omega⟩
  exact ⟨b,hb,hD.up b c (ca15_mem.2 ⟨⟨k,⟨hk,h1.1,h1.2.1,h1.2.2⟩,by omega⟩,by omega,by omega⟩)⟩
 intro d
 induction d with
 | zero =>
  intro c hc;rw [h.c];split
  · exact hb 0
  ·
   rw [sumR_all (fun k hk => ?_)]
   · exact ⟨by grind,by exact_mod_cast Nat.zero_le _⟩
   ·
    split
    ·
     next h1 =>
     obtain ⟨b,_,h2⟩:=hup hk h1;omega
    · rfl
 | succ d ih =>
  intro c hc;rw [h.c];split
  · exact hb (d + 1)
  ·
   have hall:∀ k,k < S.T.length->0<=(if (gt14 S.T k).u = true/\(gt14 S.T k).k = 2/\(gt14 S.T k).t = (c:Int) then wT k else 0)/\(if (gt14 S.T k).u = true/\(gt14 S.T k).k = 2/\(gt14 S.T k).t = (c:Int) then wT k else 0)<=((96 ^ d * 134217728:Nat):Rat):=by
    intro k hk;split
    ·
     next h1 =>
     obtain ⟨b,hb1,h2⟩:=hup hk h1;have h3:=ih b (by omega);have h4:=h.le_t hf hb1 h3.1;exact ⟨h4.1,Rat.le_trans h4.2 h3.2⟩
    · exact ⟨by grind,by exact_mod_cast Nat.zero_le _⟩
   refine ⟨sumR18_pos (fun k hk => (hall k hk).1),Rat.le_trans (sumR18_le (fun k hk => (hall k hk).2)) ?_⟩;have e:((S.T.length:Nat):Rat) * ((96 ^ d * 134217728:Nat):Rat) = ((S.T.length * (96 ^ d * 134217728):Nat):Rat):=by push_cast; rfl
   rw [e]
   have h5:S.T.length * (96 ^ d * 134217728)<=96 ^ (d + 1) * 134217728:=by
    rw [Nat.pow_succ,Nat.mul_comm (96 ^ d) 96,Nat.mul_assoc];exact Nat.mul_le_mul_right _ hn96
   exact_mod_cast h5
theorem Wo18.small {S:Sv14} {wC wT:Nat->Rat} (h:Wo18 S wC wT) (hf:Fine14 S) :
  (∀ c,Prt18 (pa18 S) (wC c)/\0<=wC c/\wC c<=((96 ^ 16 * 134217728:Nat):Rat))/\∀ k,Prt18 (pa18 S) (wT k)/\0<=wT k/\wT k<=((96 ^ 16 * 134217728:Nat):Rat):=by
 obtain ⟨os,hd,hl⟩:Free14R S.C.length (cArr14 S S.T.length):=hf.2.2.2.2.2.2.2.2.1;obtain ⟨D,hD,hn⟩:=dep13_ex (A:=Ca15 S) (in13_cut _ _) hd.1 hl;have h16:S.C.length<=16:=hf.2.2.1.1.1;have hc:∀ c,0<=wC c/\wC c<=((96 ^ 16 * 134217728:Nat):Rat):=fun c => h.le_c hf hD 16 c (by have:=hn c; omega)
 refine ⟨fun c => ⟨(h.prt_c hf hD (D c) c (Nat.le_refl _)).mono (pd18_all S D _),hc c⟩,fun k => ?_⟩;by_cases hk:Cnt17 S k
 ·
  have hl:=hk.lt;have hu:=us15_lt (hf.2.2.2.2.1 k hl.1 hl.2).1;obtain ⟨c,hkc⟩:∃ c:Nat,(gt14 S.T k).c = (c:Int):=⟨(gt14 S.T k).c.toNat,by omega⟩
  have h1:=h.le_t hf hkc (hc c).1;exact ⟨(h.prt_t hf hkc (h.prt_c hf hD (D c) c (Nat.le_refl _))).mono (pd18_all S D _),h1.1,Rat.le_trans h1.2 (hc c).2⟩
 ·
  rw [h.none hk];exact ⟨Prt18.zero _,by grind,by exact_mod_cast Nat.zero_le _⟩
end
section
open Go.RowKit
theorem info_u32:(Tryz.prog.info? 86).map (fun i => (i.zero,i.size,i.bytes)) = some (some (.int .u32 0),1,4):=by kernel_rfl
def lenV:Value->Nat
 | .slice _ n _ => n
 | _ => 0
theorem shorten_any (A:Option Addr) (xs:List Nat) (n c:Nat) (w:World) (hl:xs.length = n) (hr:Ra w w.heap.size A xs) (hd:Dg xs) (hn:n<=10000000) (hc:n<=c) :
  Calls Tryz.prog 61 #[.slice A n c] w fun e w' => ∃ m,m<=n/\e = .returned (.slice A m c)/\Cn (xs.take m)/\U (xs.take m) = U xs/\w = w':=by
 have HL:=qz hl;clear hl;go_enter Tryz.func61,Tryz.ntmps61;go_wp2
 go_loop [0] (fun v => ∃ m:Nat,m<=n/\v = .slice A m c/\∀ j,m<=j->nth xs j = 0) lenV
 case atStart => exact ⟨n,Nat.le_refl _,rfl,fun j hj => nth_out (by have:=HL.out; omega)⟩
 case round =>
  obtain ⟨m,hm,rfl,hz⟩:=hrel;have HZ:=qz hz;clear hz;by_cases hpos:0 < m
  ·
   obtain ⟨k,rfl⟩:∃ k,m = k + 1:=⟨m - 1,by omega⟩
   obtain ⟨b,o,hA,hb,hcm⟩:=hr.at_ (k:=k) (by have:=HL.out; omega);subst hA;by_cases h0:nth xs k = 0
   ·
    have h0':(((nth xs k:Nat):Int) == 0) = true:=by simp [h0]
    have H0:=qz h0;clear h0;go_wp2
    go_round
    case rel =>
     refine ⟨k,by omega,rfl,fun j hj => ?_⟩;rcases Nat.lt_or_ge k j with h | h
     · exact HZ.out j h
     · rw [show j = k by omega]; exact H0.out
    case measure => simp [lenV]
   ·
    have h0':(((nth xs k:Nat):Int) == 0) = false:=by simp [h0]
    have HC:Hid (Cn (xs.take (k + 1))):=qz (Cn.of_take hd (by have:=HL.out; omega) (fun _ => by simpa using h0));clear h0;go_wp2;go_ret;exact ⟨_,hm,rfl,HC.out,U_zeros xs _ HZ.out,rfl⟩
  ·
   obtain rfl:m = 0:=by omega
   go_wp2;go_ret;exact ⟨_,hm,rfl,by simpa using Cn.nil,U_zeros xs _ HZ.out,rfl⟩
def clTo (xs:List Nat):Nat->Nat
 | 0 => 0
 | n + 1 => if nth xs n = 0 then clTo xs n else n + 1
def cl (xs:List Nat):Nat:=clTo xs xs.length
theorem clTo_spec (xs:List Nat) (n:Nat):clTo xs n<=n/\(∀ j,clTo xs n<=j->j < n->nth xs j = 0)/\(0 < clTo xs n->nth xs (clTo xs n - 1)≠0):=by
 induction n with
 | zero => exact ⟨Nat.le_refl _,fun j _ h => by omega,fun h => by simp [clTo] at h⟩
 | succ n ih =>
  unfold clTo;split
  ·
   next h => exact ⟨by omega,fun j h1 h2 => by
    rcases Nat.lt_or_ge j n with h3 | h3
    · exact ih.2.1 j h1 h3
    · rw [show j = n by omega]; exact h,ih.2.2⟩
  · next h => exact ⟨Nat.le_refl _,fun j h1 h2 => by omega,fun _ => by simpa using h⟩
theorem cl_le (xs:List Nat):cl xs<=xs.length:=(clTo_spec xs xs.length).1
theorem cl_can {xs:List Nat} (h:Dg xs):Cn (xs.take (cl xs)):=Cn.of_take h (cl_le xs) (clTo_spec xs xs.length).2.2
theorem cl_U (xs:List Nat):U (xs.take (cl xs)) = U xs:=U_zeros xs _ fun j hj => by
 rcases Nat.lt_or_ge j xs.length with h | h
 · exact (clTo_spec xs xs.length).2.1 j hj h
 · exact nth_out h
theorem shorten_cl (A:Option Addr) (xs:List Nat) (n c:Nat) (w:World) (hl:xs.length = n) (hr:Ra w w.heap.size A xs) (hd:Dg xs) (hn:n<=10000000) (hc:n<=c) :
  Calls Tryz.prog 61 #[.slice A n c] w fun e w' => e = .returned (.slice A (cl xs) c)/\w = w':=by
 refine (shorten_any A xs n c w hl hr hd hn hc).mono ?_;rintro e w' ⟨m,hm,rfl,hcan,hU,rfl⟩;have:=U_inj hcan (cl_can hd) (hU.trans (cl_U xs).symm);have h2:=congrArg List.length this;have h3:=cl_le xs;simp at h2;obtain rfl:m = cl xs:=by omega
 exact ⟨rfl,rfl⟩
end
section
open Go.RowKit Go.Shelf
attribute [local go_sem] Oper.semAt_some
def benc (xs:List Nat) (N k:Nat):Array Value:=#[.int .i64 ((N - 1 - k:Nat):Int),.int .u32 ((nth xs (N - 1 - k):Nat):Int)]
def bkeep (Bs:Nat) (A:Option Addr) (N k:Nat) (p:Addr):Prop:=p = ⟨Bs,0,none⟩\/∃ b o j,A = some ⟨b,o,none⟩/\j < N - 1 - k/\p = ⟨b,o + j,none⟩
theorem bkeep_lt {w:World} {Bs:Nat} {A:Option Addr} {N:Nat} {xs:List Nat} {B:Nat} (hl:xs.length = N) (hr:Ra w B A xs) (hBs:Bs < B):∀ k p,bkeep Bs A N k p->p.block < B:=by
 intro k p h;rcases h with rfl | ⟨b,o,j,rfl,hj,rfl⟩
 · exact hBs
 ·
  obtain ⟨b',o',h1,h2,_⟩:=hr.at_ (k:=j) (by omega);injection h1 with h1
  injection h1 with h1 _
  subst h1;exact h2
theorem bkeep_ne {w:World} {Bs:Nat} {A:Option Addr} {N:Nat} {xs:List Nat} {B g:Nat} (hl:xs.length = N) (hr:Ra w B A xs) (hg:B<=g) (hBs:Bs≠g):∀ k p,bkeep Bs A N k p->p.block≠g:=by
 intro k p h;rcases h with rfl | ⟨b,o,j,rfl,hj,rfl⟩
 · exact hBs
 ·
  obtain ⟨b',o',h1,h2,_⟩:=hr.at_ (k:=j) (by omega);injection h1 with h1
  injection h1 with h1 _
  subst h1;show b≠g;omega
set_option maxRecDepth 100000 in
theorem backw_goes (F:Fence) (n:Nat) (hf:F.fn 84) (hro:F.round = none) (hn:1<=n) (Bs:Nat) (A:Option Addr) (xs:List Nat) (N c:Nat) (w:World) (hl:xs.length = N) (hr:Ra w w.heap.size A xs) (hN:N<=10000000) (hc:N<=c)
  (hb:w.cell? ⟨Bs,0,none⟩ = some (.slice A N c)) :
  Goes F n Tryz.prog 84 #[.pointer (some ⟨Bs,0,none⟩)] (benc xs N) (bkeep Bs A N) N w:=fun l J Jx W hW _ _ hY h0 => by
 have hBs:=World.block_lt_of_cell? w _ hb;have hb1:=(hW.cell hBs).trans hb;have hr1:=hr.below hW (Nat.le_refl _);clear hb hr;have HL:=qz hl;clear hl;refine callsIn_of_wp Tryz.func84 rfl hf ?_ hro
 simp only [Tryz.ntmps84,List.size_toArray,List.length_cons,List.length_nil,Nat.reduceAdd,Nat.reduceSub,Array.replicate_succ,Array.replicate_zero,List.push_toArray,List.append_toArray,List.nil_append,List.cons_append];gi_wp2
 gi_loopw [3] (fun i wr => ∃ (m:Nat) (j:Int),i = .int .i64 j/\j + 1 = (m:Int)/\m<=N/\J (N - m) wr/\wr.cell? ⟨Bs,0,none⟩ = some (.slice A N c)/\∀ t,t < m->∀ b o,A = some ⟨b,o,none⟩->wr.cell? ⟨b,o + t,none⟩ = some (.int .u32 ((nth xs t:Nat):Int)))
  (fun i _ => (intOf i + 1).toNat)
 case atStart =>
  refine ⟨N,_,rfl,by omega,Nat.le_refl _,by rw [Nat.sub_self]; exact h0,hb1,fun t ht b o hA => ?_⟩;obtain ⟨b',o',h1,_,h2⟩:=hr1.at_ (k:=t) (by have:=HL.out; omega);rw [hA] at h1;injection h1 with h1
  injection h1 with h1 h3
  subst h1 h3;exact h2
 case round =>
  obtain ⟨m,j,rfl,hj,hm,hJ,hbx,hcells⟩:=hrel;have HC:=qz hcells;clear hcells;by_cases hpos:0 < m
  ·
   obtain ⟨q,rfl⟩:∃ q,m = q + 1:=⟨m - 1,by omega⟩
   obtain rfl:j = (q:Int):=by omega
   obtain ⟨b,o,hA,_,_⟩:=hr1.at_ (k:=q) (by have:=HL.out; omega);have hcx:=HC.out q (by omega) b o hA;have hq0:(0:Int)<=(q:Int):=by omega
   have hq1:(q:Int) < (N:Int):=by omega
   obtain ⟨fn,tmps,assign,body,hy,hR⟩:=hY (N - (q + 1)) wr (by omega) hJ;have he:N - 1 - (N - (q + 1)) = q:=by omega
   simp only [benc,he] at hy;have HE:=qz he;clear he;subst hA;gi_wp2;refine hR.mono ?_;rintro e W3 (⟨rfl,hJ3,hk3⟩ | ⟨rfl,hJx3⟩)
   ·
    have HS:Hid (Same (bkeep Bs (some ⟨b,o,none⟩) N (N - (q + 1))) wr W3):=qz hk3;have HJ:=qz hJ3;clear hk3 hJ3 hJ;gi_wp2;go_roundw
    case rel =>
     refine ⟨q,_,rfl,by omega,by omega,by have:=HJ.out; rwa [show N - (q + 1) + 1 = N - q by omega] at this,HS.out.cell _ _ (.inl rfl) hbx,fun t ht b' o' hA => ?_⟩;injection hA with hA
     injection hA with h1 h2
     subst h1 h2;exact HS.out.cell _ _ (.inr ⟨b,o,t,rfl,by have:=HE.out; omega,rfl⟩) (HC.out t (by omega) b o rfl)
    case measure => first | (simp [intOf]; done) | (simp [intOf]; omega)
   ·
    gi_wp2;refine bodyPost_ret (results_none rfl _ _ _) rfl ?_;exact ⟨⟨_,rfl⟩,.inr ⟨_,by omega,hJx3⟩⟩
  ·
   obtain rfl:m = 0:=by omega
   obtain rfl:j = -1:=by omega
   have HJ:Hid (J N wr):=qz (by simpa using hJ);clear hJ;gi_wp2
   go_end0
   exact ⟨⟨_,rfl⟩,.inl HJ.out⟩
theorem backw_in (F:Fence) (n:Nat) (hf:F.fn 63) (hro:F.round = none) (A:Option Addr) (N c:Nat) (w:World) :
  CallsIn F n Tryz.prog 63 #[.slice A N c] w fun e w' => e = .returned (.func (.func 84) #[] #[.pointer (some ⟨w.heap.size,0,none⟩)])/\w.alloc (.cells #[.slice A N c] 44) = w':=by
 refine callsIn_of_wp Tryz.func63 rfl hf ?_ hro;simp only [Tryz.ntmps63,List.size_toArray,List.length_cons,List.length_nil,Nat.reduceAdd,Nat.reduceSub,Array.replicate_succ,Array.replicate_zero,List.push_toArray,List.append_toArray,List.nil_append,List.cons_append];gi_wp2;go_ret;exact ⟨rfl,rfl⟩
theorem backw_calls (A:Option Addr) (N c:Nat) (w:World) :
  Calls Tryz.prog 63 #[.slice A N c] w fun e w' => e = .returned (.func (.func 84) #[] #[.pointer (some ⟨w.heap.size,0,none⟩)])/\w.alloc (.cells #[.slice A N c] 44) = w' :=
 callsIn_wide.1 (backw_in Fence.wide 4 trivial rfl A N c w)
end
section
open Go.RowKit Go.Shelf
attribute [local go_sem] Oper.semAt_some
end
section
open Go.RowKit
set_option maxRecDepth 100000
def Nv (w:World) (L:Nat) (v:Value) (a:Nat):Prop:=∃ A xs n c,v = .slice A n c/\xs.length = n/\n<=c/\Ra w w.heap.size A xs/\Fa L A xs/\Cn xs/\U xs = a
theorem Nv.below {w w':World} {L:Nat} {v:Value} {a:Nat} (h:Nv w L v a) (hb:Below w.heap.size w w'):Nv w' L v a:=by
 obtain ⟨A,xs,n,c,h1,hl,h2,h3,h4,h5,h6⟩:=h;exact ⟨A,xs,n,c,h1,hl,h2,(h3.below hb (Nat.le_refl _)).more hb.size,h4,h5,h6⟩
theorem Nv.more {w:World} {L L':Nat} {v:Value} {a:Nat} (h:Nv w L v a) (hL:L'<=L):Nv w L' v a:=by
 obtain ⟨A,xs,n,c,h1,hl,h2,h3,h4,h5,h6⟩:=h;exact ⟨A,xs,n,c,h1,hl,h2,h3,h4.more hL,h5,h6⟩
theorem Nv.old {w:World} {L:Nat} {v:Value} {a:Nat} (h:Nv w L v a) {p:Addr} (hp:p.block < L) (u:Value):Nv (w.setCell p u) L v a:=by
 obtain ⟨A,xs,n,c,h1,hl,h2,h3,h4,h5,h6⟩:=h;exact ⟨A,xs,n,c,h1,hl,h2,by rw [setCell_size]; exact h3.old h4 hp u,h4,h5,h6⟩
theorem Nv.form {w:World} {L:Nat} {v:Value} {a:Nat} (h:Nv w L v a) {k:Nat} (hk:a < 4294967296 ^ k) :
  ∃ A xs n c,v = .slice A n c/\Hid (xs.length = n)/\n<=c/\Ra w w.heap.size A xs/\Cn xs/\Hid (U xs = a)/\n<=k:=by
 obtain ⟨A,xs,n,c,h1,hl,h2,h3,h4,h5,h6⟩:=h;exact ⟨A,xs,n,c,h1,hl,h2,h3,h5,h6,by have:=h5.len (k:=k) (by omega); omega⟩
theorem Nv.shape {w:World} {L:Nat} {v:Value} {a:Nat} (h:Nv w L v a):∃ A n c,v = .slice A n c:=by
 obtain ⟨A,xs,n,c,h1,_⟩:=h;exact ⟨A,n,c,h1⟩
def RetNv (w:World) (a:Nat) (e:Ending) (w':World):Prop:=∃ v,e = .returned v/\Nv w' w.heap.size v a/\Below w.heap.size w w'
theorem Ra.lit (w:World) (t:TypeId) (xs:List Nat):Ra (w.alloc (.cells (u32s xs).toArray t)) (w.heap.size + 1) (some ⟨w.heap.size,0,none⟩) xs:=fun _ =>
 ⟨w.heap.size,0,rfl,by omega,fun k hk => by
  rw [(Blk.new w t (u32s xs).toArray).cell (0 + k),Nat.zero_add]
  simpa using u32s_get hk⟩
theorem natOf_any (a:Nat) (w:World) (ha:a < 18446744073709551616):Calls Tryz.prog 59 #[.int .u64 (a:Int)] w (RetNv w a):=by
 have h1:IntKind.u32.wrap (a:Int) = ((a % 4294967296:Nat):Int):=by simp [IntKind.wrap,IntKind.bits,IntKind.signed]
 have h2:IntKind.u32.wrap ((a:Int) / 4294967296) = ((a / 4294967296:Nat):Int):=by rw [IntWalk.u32_in _ (by omega)]; omega
 have hr:=Ra.lit w 86 [a % 4294967296,a / 4294967296];have hd:Dg [a % 4294967296,a / 4294967296]:=by intro d hd; simp at hd; omega
 have hu:U [a % 4294967296,a / 4294967296] = a:=by simp only [U]; omega
 have HU:=qz hu;have H1:=qz h1;have H2:=qz h2;clear hu h1 h2;go_enter Tryz.func59,Tryz.ntmps59;go_wp2_with fail
 have hr':Ra (w.alloc (.cells #[.int .u32 ((a:Int) % 4294967296),.int .u32 ((a:Int) / 4294967296)] 86)) (w.alloc (.cells #[.int .u32 ((a:Int) % 4294967296),.int .u32 ((a:Int) / 4294967296)] 86)).heap.size (some ⟨w.heap.size,0,none⟩) [a % 4294967296,a / 4294967296]:=by
  simpa [u32s] using hr
 refine (shorten_any _ _ 2 2 _ (by rfl) hr' hd (by omega) (by omega)).mono ?_;rintro e w' ⟨m,hm,rfl,hcan,hU,rfl⟩;have HCan:=qz hcan;have HUU:=qz (hU.trans HU.out);clear hcan hU;go_wp2_with fail;go_ret
 refine ⟨_,rfl,⟨_,[a % 4294967296,a / 4294967296].take m,m,2,rfl,by simp; omega,hm,hr'.take m,fun _ => ⟨_,_,rfl,Nat.le_refl _⟩,HCan.out,HUU.out⟩,(Below.refl _ _).alloc (Nat.le_refl _) _⟩
def Ow (w:World) (B:Nat) (v:Value) (n:Nat) (xs:List Nat):Prop:=w.ownsRow B 86 1 v n (u32s xs)
theorem Ow.len {w:World} {B:Nat} {v:Value} {n:Nat} {xs:List Nat} (h:Ow w B v n xs):xs.length = n:=by have:=h.1; rw [u32s_length] at this; omega
theorem Ow.form {w:World} {B:Nat} {v:Value} {n:Nat} {xs:List Nat} (h:Ow w B v n xs):∃ A c,v = .slice A n c/\n<=c:=ownsRow_form w h
theorem Ow.below {w w':World} {B:Nat} {v:Value} {n:Nat} {xs:List Nat} (h:Ow w B v n xs) (hb:Below w.heap.size w w'):Ow w' B v n xs:=by
 have hlt:=World.ownsRow.lt h;obtain ⟨h1,h2⟩:=h;refine ⟨h1,?_⟩;rcases h2 with h2 | ⟨g,cap,cur,rfl,hg,hh,r⟩
 · exact .inl h2
 · exact .inr ⟨g,cap,cur,rfl,hg,by rw [hb.block g (hlt g rfl).2]; exact hh,r⟩
theorem Ow.more {w:World} {B B':Nat} {v:Value} {n:Nat} {xs:List Nat} (h:Ow w B v n xs) (hB:B'<=B):Ow w B' v n xs:=by
 obtain ⟨h1,h2⟩:=h;refine ⟨h1,?_⟩;rcases h2 with h2 | ⟨g,cap,cur,rfl,hg,hh,r⟩
 · exact .inl h2
 · exact .inr ⟨g,cap,cur,rfl,by omega,hh,r⟩
theorem Ow.take {w:World} {B:Nat} {A:Option Addr} {n c:Nat} {xs:List Nat} (h:Ow w B (.slice A n c) n xs) {m:Nat} (hm:m<=n):Ow w B (.slice A m c) m (xs.take m):=by
 have hl:=h.len;obtain ⟨h1,h2⟩:=h;refine ⟨by rw [u32s_length]; simp; omega,?_⟩;rcases h2 with ⟨h2,h3⟩ | ⟨g,cap,cur,hv,hg,hh,hn,hc,hsz,ht⟩
 ·
  injection h2 with h4 h5 h6
  subst h4 h5 h6;obtain rfl:m = 0:=by omega
  exact .inl ⟨rfl,rfl⟩
 ·
  injection hv with h4 h5 h6
  subst h4 h6;refine .inr ⟨g,c,cur,rfl,hg,hh,by omega,hc,hsz,?_⟩;have e:u32s (xs.take m) = (u32s xs).take m:=by simp [u32s,List.map_take]
  rw [e,<- ht,List.take_take,Nat.min_eq_left (by simp; omega),Nat.mul_one]
theorem Ow.reads {w:World} {B:Nat} {A:Option Addr} {n c:Nat} {xs:List Nat} (h:Ow w B (.slice A n c) n xs):Ra w w.heap.size A xs/\Fa B A xs:=⟨Ra.of_own h,Fa.of_own h⟩
theorem Ow.nv {w:World} {B:Nat} {A:Option Addr} {n c:Nat} {xs:List Nat} (h:Ow w B (.slice A n c) n xs) (hc:n<=c) (hcan:Cn xs):Nv w B (.slice A n c) (U xs) :=
 ⟨A,xs,n,c,rfl,h.len,hc,h.reads.1,h.reads.2,hcan,rfl⟩
theorem Ow.nil (w:World) (B:Nat):Ow w B (.slice none 0 0) 0 []:=World.ownsRow_nil _ _ _ _
def RetOw (w:World) (xs:List Nat) (e:Ending) (w':World):Prop:=∃ v,e = .returned v/\Ow w' w.heap.size v xs.length xs/\Below w.heap.size w w'
theorem nil_is:∀ (n c:Nat) (w:World),(binOp .eql 44 (.slice none n c) (.slice none 0 0)).run Tryz.prog w = .ok (.bool true) w:=fun _ _ _ => by kernel_rfl
theorem nil_not:∀ (a:Addr) (n c:Nat) (w:World),(binOp .eql 44 (.slice (some a) n c) (.slice none 0 0)).run Tryz.prog w = .ok (.bool false) w:=fun _ _ _ _ => by kernel_rfl
theorem clone_done {w w1:World} {A':Option Addr} {c' n':Nat} {xs:List Nat} (hl:([] ++ xs).length = n') (hown:w1.ownsRow w.heap.size 86 1 (.slice A' n' c') n' (u32s ([] ++ xs)))
  (hg:(w.alloc (.cells #[] 86)).grownBy w1 (Value.slice (some ⟨w.heap.size,0,none⟩) 0 0).ownBlock):RetOw w xs (.returned (.slice A' n' c')) w1:=by
 rw [List.nil_append] at hl hown;subst hl;exact ⟨_,rfl,hown,((Below.refl _ _).alloc (Nat.le_refl _) _).grown hg (by simp) (by intro k hk; simp [Value.ownBlock] at hk; omega)⟩
theorem clone_any (A:Option Addr) (xs:List Nat) (n c:Nat) (w:World) (hl:xs.length = n) (hr:Ra w w.heap.size A xs) (hn:n<=10000000) :
  Calls Tryz.prog 114 #[.slice A n c] w (RetOw w xs):=by
 have HL:=qz hl;have hni:=nil_is;have hnn:=nil_not;clear hl
 cases A with
 | none =>
  obtain rfl:xs = []:=by
   rcases xs with _ | ⟨y,r⟩
   · rfl
   ·
    obtain ⟨_,_,h,_⟩:=hr (by simp);cases h
  obtain rfl:n = 0:=by simpa using HL.out.symm
  go_enter Tryz.func114,Tryz.ntmps114;go_wp2;go_ret
  exact ⟨_,rfl,Ow.nil _ _,Below.refl _ _⟩
 | some ad =>
  have HO:Hid ((w.alloc (.cells #[] 86)).ownsRow w.heap.size 86 1 (.slice (some ⟨w.heap.size,0,none⟩) 0 0) ([]:List Nat).length (u32s [])) :=
   qz (by have:=World.ownsRow_made (base:=w.heap.size) (e:=86) (size:=1) w #[] 0 (by simp) (by decide) rfl; simpa [u32s] using this)
  have HR:=qz (hr.alloc (Nat.le_refl _) (.cells #[] 86));go_enter Tryz.func114,Tryz.ntmps114
  go_wp2_with (at_builtin; go_loud (refine wpList_append_u32s _ rfl (.tmp 5) (.tmp 6) 44 rfl w.heap.size 86 Tryz.underlying44 info_u32 (.slice (some ⟨w.heap.size,0,none⟩) 0 0) [] rfl HO.out w.heap.size (some ad) n xs _ HL.out rfl HR.out (by have:=HL.out; simp; omega) (by simp) ?_); intro A' n' c' w1 hl1 hc1 hown1 hg1);go_ret
  exact clone_done hl1.out hown1.out hg1
def Win (w:World) (g:Nat) (t:TypeId) (L:List Value) (xs:List Nat) (R:List Value):Prop:=Blk w g t (L ++ u32s xs ++ R).toArray
theorem Win.lt {w:World} {g:Nat} {t:TypeId} {L R:List Value} {xs:List Nat} (h:Win w g t L xs R):g < w.heap.size:=Blk.lt h
theorem Win.cell {w:World} {g:Nat} {t:TypeId} {L R:List Value} {xs:List Nat} (h:Win w g t L xs R) {o:Nat} (ho:L.length = o) {k:Nat} (hk:k < xs.length) :
  w.cell? ⟨g,o + k,none⟩ = some (.int .u32 ((nth xs k:Nat):Int)):=by
 rw [Blk.cell h];have e:=u32s_get hk;have hl:=u32s_length xs;simp only [List.getElem?_toArray,List.append_assoc];rw [List.getElem?_append_right (by omega),List.getElem?_append_left (by omega),show o + k - L.length = k by omega,e]
theorem Win.frozen {w:World} {g:Nat} {t:TypeId} {L R:List Value} {xs:List Nat} (h:Win w g t L xs R) (i:Nat):w.frozen? ⟨g,i,none⟩ = false:=Blk.frozen h i
theorem Win.set {w:World} {g:Nat} {t:TypeId} {L R:List Value} {xs:List Nat} (h:Win w g t L xs R) {o:Nat} (ho:L.length = o) {k:Nat} (hk:k < xs.length) (d:Nat) :
  Win (w.setCell ⟨g,o + k,none⟩ (.int .u32 (d:Int))) g t L (xs.set k d) R:=by
 have:=Blk.set_ h (o + k) (.int .u32 (d:Int))
 have e:(L ++ u32s xs ++ R).toArray.setIfInBounds (o + k) (.int .u32 (d:Int)) = (L ++ u32s (xs.set k d) ++ R).toArray:=by
  have hl:=u32s_length xs;simp only [List.setIfInBounds_toArray,List.append_assoc];rw [List.set_append_right _ _ (by omega),List.set_append_left _ _ (by omega),show o + k - L.length = k by omega];simp [u32s,List.map_set]
 rw [e] at this;exact this
theorem Win.put {w:World} {g:Nat} {t:TypeId} {L R:List Value} {xs:List Nat} (h:Win w g t L xs R) {o:Nat} (ho:L.length = o) {k:Nat} (hk:k < xs.length) {d:Nat} {u:Int} (hu:u = (d:Int)) :
  Win (w.setCell ⟨g,o + k,none⟩ (.int .u32 u)) g t L (xs.set k d) R:=hu ▸ h.set ho hk d
theorem Win.below {w w':World} {g B:Nat} {t:TypeId} {L R:List Value} {xs:List Nat} (h:Win w g t L xs R) (hb:Below B w w') (hg:g < B):Win w' g t L xs R:=Blk.below h hb hg
theorem Win.reads {w:World} {g:Nat} {t:TypeId} {L R:List Value} {xs:List Nat} (h:Win w g t L xs R) {o:Nat} (ho:L.length = o):Ra w w.heap.size (some ⟨g,o,none⟩) xs :=
 fun _ => ⟨g,o,rfl,h.lt,fun _ hk => h.cell ho hk⟩
theorem Win.far_ {w:World} {g:Nat} {t:TypeId} {L R:List Value} {xs:List Nat} (h:Win w g t L xs R) {p:Addr} (hp:g≠p.block) (u:Value):Win (w.setCell p u) g t L xs R:=Blk.far h hp u
theorem Ow.win {w:World} {B n c g:Nat} {xs:List Nat} (h:Ow w B (.slice (some ⟨g,0,none⟩) n c) n xs):∃ R,Win w g 86 [] xs R/\B<=g/\n + R.length = c/\c<=maxLen:=by
 have hl:=h.len;rcases h.2 with ⟨h2,_⟩ | ⟨g',cap,cur,hv,hg,hh,hn,hc,hsz,ht⟩
 · injection h2 with h2; cases h2
 ·
  injection hv with h4 h5 h6
  injection h4 with h4
  injection h4 with h4
  subst h4 h6;refine ⟨cur.toList.drop n,?_,hg,by simp; omega,hc⟩;unfold Win Blk;rw [List.nil_append,<- ht,Nat.mul_one,List.take_append_drop];simpa using hh
theorem Ow.of_win {w:World} {B n c g:Nat} {xs:List Nat} {R:List Value} (h:Win w g 86 [] xs R) (hl:xs.length = n) (hB:B<=g) (hc:n + R.length = c) (hm:c<=maxLen):Ow w B (.slice (some ⟨g,0,none⟩) n c) n xs:=by
 have hlu:=u32s_length xs;refine ⟨by rw [hlu]; omega,.inr ⟨g,c,_,rfl,hB,h,by omega,hm,by simp; omega,?_⟩⟩;simp only [List.nil_append];rw [List.take_append_of_le_length (by omega),List.take_of_length_le (by omega)]
theorem wrote_below {w w':World} {g B:Nat} (h:w.grownBy w' (some g)) (hB:B<=g) (hg:g < w.heap.size):Below B w w':=(Below.refl B w).grown h (by omega) (fun k e => by cases e; exact hB)
theorem wrote_ra {w w':World} {g:Nat} (h:w.grownBy w' (some g)) {A:Option Addr} {xs:List Nat} (hr:Ra w g A xs) (hg:g < w.heap.size):Ra w' g A xs :=
 hr.keep fun p hp => World.cell?_of_block (h.block p.block (by omega) (by intro e; injection e with e; omega))
theorem wrote_set {a w:World} {b:Nat} (h:a.grownBy w (some b)) (i:Nat) (v:Value):a.grownBy (w.setCell ⟨b,i,none⟩ v) (some b):=Lib.grownBy_setB h i v
theorem Blk.kept {w w':World} {g:Nat} {t:TypeId} {cs:Array Value} (h:Blk w g t cs) {row:Option Nat} (hg:w.grownBy w' row) (hr:∀ r,row = some r->∃ o:Obj,w.heap[r]? = some o/\o.isCells = false):Blk w' g t cs :=
 (hg.block g h.lt (fun e => by obtain ⟨o,ho,hc⟩:=hr g e.symm; rw [show w.heap[g]? = _ from h] at ho; cases ho; cases hc)).trans h
theorem Win.kept {w w':World} {g:Nat} {t:TypeId} {L R:List Value} {xs:List Nat} (h:Win w g t L xs R) {row:Option Nat} (hg:w.grownBy w' row) (hr:∀ r,row = some r->∃ o:Obj,w.heap[r]? = some o/\o.isCells = false):Win w' g t L xs R:=Blk.kept h hg hr
theorem wrote_more {w w' w'':World} {g:Nat} (h:w.grownBy w' (some g)) {row:Option Nat} (hg:w'.grownBy w'' row) (hr:∀ r,row = some r->w.heap.size<=r):w.grownBy w'' (some g) :=
 ⟨hg.os.trans h.os,hg.tape.trans h.tape,hg.output.trans h.output,Nat.le_trans h.size hg.size,fun i hi hne => (hg.block i (Nat.lt_of_lt_of_le hi h.size) (fun e => by have:=hr i e.symm; omega)).trans (h.block i hi hne)⟩
theorem below_then {w w' w'':World} {g:Nat} (h:Below w.heap.size w w') (k:w'.grownBy w'' (some g)):w.grownBy w'' (some g) :=
 ⟨k.os.trans h.os,k.tape.trans h.tape,k.output.trans h.output,Nat.le_trans h.size k.size,fun i hi hne => (k.block i (Nat.lt_of_lt_of_le hi h.size) hne).trans (h.block i hi)⟩
theorem Dg.set {ds:List Nat} (h:Dg ds) {j r:Nat} (hr:r < 4294967296):Dg (ds.set j r):=fun d hd => by
 rcases List.mem_or_eq_of_mem_set hd with h1 | h1
 · exact h d h1
 · omega
theorem nth_set32 {ds:List Nat} {j r i:Nat} (hj:j < ds.length):nth (ds.set j r) i = if i = j then r else nth ds i:=by
 simp only [nth,List.getD_eq_getElem?_getD,List.getElem?_set];by_cases h:j = i
 · subst h; simp [hj]
 ·
  have:¬ i = j:=fun e => h e.symm
  simp [h,this]
theorem U_set_take {zs:List Nat} {k r:Nat} (hk:k < zs.length):U ((zs.set k r).take (k + 1)) = U (zs.take k) + 4294967296 ^ k * r:=by
 rw [U_take_succ,nth_set32 hk,if_pos rfl,List.take_set_of_le (Nat.le_refl k)]
def AddIn (xs ys zs:List Nat) (n k ov:Nat):Prop :=
 zs.length = n/\Dg zs/\(∀ j,k<=j->nth zs j = nth xs j)/\U (zs.take k) + 4294967296 ^ k * ov = U (xs.take k) + U (ys.take k)/\ov<=1
theorem AddIn.step {xs ys zs:List Nat} {n k ov X:Nat} (h:AddIn xs ys zs n k ov) (hk:k < n) (hX:nth xs k + nth ys k + ov = X) (hy:nth ys k < 4294967296):AddIn xs ys (zs.set k (X % 4294967296)) n (k + 1) (X / 4294967296):=by
 obtain ⟨hl,hd,hz,hU,ho⟩:=h;have hzk:=hz k (Nat.le_refl k);have hdk:=hd.nth k;refine ⟨by simp [hl],hd.set (by omega),fun j hj => by rw [nth_set32 (by omega),if_neg (by omega)]; exact hz j (by omega),?_,by omega⟩;rw [U_set_take (by omega),U_take_succ xs,U_take_succ ys,Nat.pow_succ];have:=Nat.div_add_mod X 4294967296;generalize X / 4294967296 = q at *
 generalize X % 4294967296 = r at *
 subst this;generalize 4294967296 ^ k = P at *
 have e:P * (nth xs k + nth ys k + ov) = P * (4294967296 * q + r):=by rw [hX]
 grind
theorem nth_drop_ext {a b:List Nat} {k:Nat} (hl:a.length = b.length) (h:∀ j,k<=j->nth a j = nth b j):a.drop k = b.drop k:=by
 apply List.ext_getElem
 · simp [hl]
 ·
  intro i h1 h2;have:=h (k + i) (by omega);simp only [List.length_drop] at h1 h2;rw [nth_in (by omega),nth_in (by omega)] at this;simpa using this
theorem U_split (xs:List Nat) (k:Nat) (hk:k<=xs.length):U xs = U (xs.take k) + 4294967296 ^ k * U (xs.drop k):=by
 have:=U_append (xs.take k) (xs.drop k);rw [List.take_append_drop,List.length_take,Nat.min_eq_left hk] at this;exact this
theorem AddIn.done {xs ys zs:List Nat} {n k ov:Nat} (h:AddIn xs ys zs n k ov) (hx:xs.length = n) (hk:k<=n) (hy:ys.length<=n) (he:k = n\/(ys.length<=k/\ov = 0)):U zs + 4294967296 ^ n * ov = U xs + U ys:=by
 obtain ⟨hl,hd,hz,hU,ho⟩:=h;rcases he with rfl | ⟨h1,rfl⟩
 · rwa [U_take_all zs _ (by omega),U_take_all xs _ (by omega),U_take_all ys _ (by omega)] at hU
 ·
  rw [U_take_all ys _ h1] at hU;rw [U_split zs k (by omega),U_split xs k (by omega),nth_drop_ext (by omega) hz];omega
def AddedInto (w:World) (g:Nat) (L:List Value) (xs ys:List Nat) (R:List Value) (n:Nat) (e:Ending) (w':World):Prop :=
 ∃ ov zs,e = .returned (.int .u32 ((ov:Nat):Int))/\zs.length = n/\Dg zs/\U zs + 4294967296 ^ n * ov = U xs + U ys/\ov<=1/\Win w' g 86 L zs R/\w.grownBy w' (some g)
theorem addInto_any (g o:Nat) (L R:List Value) (xs ys:List Nat) (n c n2 c2:Nat) (A2:Option Addr) (w:World) (hx:xs.length = n) (hy:ys.length = n2) (hL:L.length = o) (hw:Win w g 86 L xs R)
  (hr:Ra w g A2 ys) (hd:Dg xs) (hd2:Dg ys) (hn:n<=10000000) (hn2:n2<=n) (hc:n<=c) :
  Calls Tryz.prog 115 #[.slice (some ⟨g,o,none⟩) n c,.slice A2 n2 c2] w (AddedInto w g L xs ys R n):=by
 have HX:=qz hx;have HY:=qz hy;have HL:=qz hL;have hgl:=hw.lt;clear hx hy hL;go_enter Tryz.func115,Tryz.ntmps115;go_wp2_with fail;go_loopw [5,6] (fun cv iv wr => ∃ k ov zs,cv = .int .u64 ((ov:Nat):Int)/\iv = .int .i64 ((k:Nat):Int)/\k<=n/\AddIn xs ys zs n k ov/\Win wr g 86 L zs R/\w.grownBy wr (some g)) (fun _ iv _ => n - (intOf iv).toNat)
 case atStart => exact ⟨0,0,xs,rfl,rfl,by omega,⟨HX.out,hd,fun _ _ => rfl,by simp [U],by omega⟩,hw,World.grownBy.refl _ _⟩
 case round =>
  obtain ⟨k,ov,zs,rfl,rfl,hk,hin,hwin,hgr⟩:=hrel;have HI:=qz hin;have ho1:ov<=1:=hin.2.2.2.2;have hzl:Hid (zs.length = n):=qz hin.1;have hzk:Hid (k < n->nth zs k = nth xs k):=qz (fun _ => hin.2.2.1 k (Nat.le_refl k));have hxk:=hd.nth k;have hyk:=hd2.nth k;clear hin;have hcases:(k < n/\k < n2)\/(k < n/\¬ k < n2/\ov = 1)\/(k < n/\¬ k < n2/\ov = 0)\/(¬ k < n):=by omega
  rcases hcases with ⟨hkn,hk2⟩ | ⟨hkn,hk2,rfl⟩ | ⟨hkn,hk2,rfl⟩ | hkn
  ·
   have cz:=hwin.cell HL.out (k:=k) (by have:=hzl.out; omega);rw [hzk.out hkn] at cz;have fz:=hwin.frozen (o + k);obtain ⟨b2,o2,hA2,_,cy⟩:=(wrote_ra hgr hr hgl).at_ (k:=k) (by have:=HY.out; omega);subst hA2;obtain ⟨X,hX⟩:=exq (nth xs k + nth ys k + ov);have hXX:=qz hX;have hXe:(ov:Int) + (nth xs k:Int) + (nth ys k:Int) = (X:Int):=by omega
   have hst:=qz (HI.out.step hkn hX hyk);clear hX;go_wp2_with fail;go_roundw
   case rel => exact ⟨k + 1,X / 4294967296,zs.set k (X % 4294967296),by go_num,by go_num,by omega,hst.out,hwin.put HL.out (by have:=hzl.out; omega) (by omega),wrote_set hgr _ _⟩
   case measure => simp [intOf]; omega
  ·
   have cz:=hwin.cell HL.out (k:=k) (by have:=hzl.out; omega);rw [hzk.out hkn] at cz;have fz:=hwin.frozen (o + k);obtain ⟨X,hX⟩:=exq (nth xs k + nth ys k + 1);have hXe:(1:Int) + (nth xs k:Int) = (X:Int):=by have:=nth_out (xs:=ys) (i:=k) (by have:=HY.out; omega); omega
   have hst:=qz (HI.out.step hkn hX hyk);clear hX;go_wp2_with fail;go_roundw
   case rel => exact ⟨k + 1,X / 4294967296,zs.set k (X % 4294967296),by go_num,by go_num,by omega,hst.out,hwin.put HL.out (by have:=hzl.out; omega) (by omega),wrote_set hgr _ _⟩
   case measure => simp [intOf]; omega
  ·
   have hfin:=qz (HI.out.done HX.out hk (by have:=HY.out; omega) (.inr ⟨by have:=HY.out; omega,rfl⟩));go_wp2_with fail;go_ret;exact ⟨0,zs,rfl,hzl.out,HI.out.2.1,hfin.out,by omega,hwin,hgr⟩
  ·
   obtain rfl:k = n:=by omega
   have hfin:=qz (HI.out.done HX.out hk (by have:=HY.out; omega) (.inl rfl));go_wp2_with fail;go_ret;exact ⟨ov,zs,rfl,hzl.out,HI.out.2.1,hfin.out,by omega,hwin,hgr⟩
def TakeIn (xs ys zs:List Nat) (m n k tk br:Nat):Prop :=
 zs.length = n/\Dg zs/\(∀ j,k<=j->nth zs j = nth xs j)/\U (xs.take k) + 4294967296 ^ k * (tk + br) = U (zs.take k) + m * U (ys.take k)/\tk<=4294967295/\br<=1
theorem TakeIn.step {xs ys zs:List Nat} {m n k tk br T z br':Nat} (h:TakeIn xs ys zs m n k tk br) (hk:k < n) (hT:tk + m * nth ys k = T) (hTb:T / 4294967296<=4294967295) (hz:nth xs k + 4294967296 * br' = z + T % 4294967296 + br) (hzb:z < 4294967296) (hbr:br'<=1) :
  TakeIn xs ys (zs.set k z) m n (k + 1) (T / 4294967296) br':=by
 obtain ⟨hl,hd,hzz,hU,ho,hb⟩:=h;refine ⟨by simp [hl],hd.set hzb,fun j hj => by rw [nth_set32 (by omega),if_neg (by omega)]; exact hzz j (by omega),?_,hTb,hbr⟩;rw [U_set_take (by omega),U_take_succ xs,U_take_succ ys,Nat.pow_succ];have:=Nat.div_add_mod T 4294967296;generalize T / 4294967296 = q at *
 generalize T % 4294967296 = r at *
 generalize 4294967296 ^ k = P at *
 have e:P * (nth xs k + 4294967296 * br') = P * (z + r + br):=by rw [hz]
 have e2:P * (tk + m * nth ys k) = P * (4294967296 * q + r):=by rw [hT,this]
 grind
theorem take_prod {m y tk:Nat} (hm:m<=4294967295) (hy:y < 4294967296) (ht:tk<=4294967295):m * y<=18446744065119617025/\(tk + m * y) / 4294967296<=4294967295:=by
 have h:=Nat.mul_le_mul hm (show y<=4294967295 by omega);have h2:m * y<=18446744065119617025:=h;generalize m * y = p at *
 omega
theorem wrap_u64 (x:Int):IntKind.u64.wrap x = x % 18446744073709551616:=by simp [IntKind.wrap,IntKind.bits,IntKind.signed]
theorem take_vals (d T br:Nat) (hd:d < 4294967296) (hT:T < 18446744073709551616) (hbr:br<=1):∃ z br':Nat,z < 4294967296/\br'<=1/\d + 4294967296 * br' = z + T % 4294967296 + br /\
  IntKind.u64.wrap (IntKind.u64.wrap ((d:Int) - bits .and .u64 (T:Int) 4294967295) - (br:Int)) % 4294967296 = (z:Int) /\
  IntKind.u64.wrap (IntKind.u64.wrap ((d:Int) - bits .and .u64 (T:Int) 4294967295) - (br:Int)) / 9223372036854775808 = (br':Int):=by
 rw [and_mask32 T hT,wrap_u64,wrap_u64];obtain ⟨t0,ht⟩:=exq (T % 4294967296);have h0:t0 < 4294967296:=by omega
 rw [ht];by_cases h:t0 + br<=d
 · exact ⟨d - t0 - br,0,by omega,by omega,by omega,by omega,by omega⟩
 · exact ⟨d + 4294967296 - t0 - br,1,by omega,by omega,by omega,by omega,by omega⟩
def nz (a:Nat):Bool:=a != 0
theorem nz_yes {a:Nat} (h:0 < a):nz a = true:=by simp [nz]; omega
theorem nz_no:nz 0 = false:=rfl
theorem take_ne (a b:Nat):((a:Int) + (b:Int) != 0) = nz (a + b):=by
 rcases Nat.eq_zero_or_pos (a + b) with h | h
 ·
  have h1:(a:Int) + (b:Int) = 0:=by omega
  rw [h,h1]; rfl
 ·
  have h1:¬ (a:Int) + (b:Int) = 0:=by omega
  rw [nz_yes h];exact bne_iff_ne.2 h1
theorem TakeIn.done {xs ys zs:List Nat} {m n tk br:Nat} (h:TakeIn xs ys zs m n n tk br) (hx:xs.length = n) (hy:ys.length<=n):U xs + 4294967296 ^ n * (tk + br) = U zs + m * U ys:=by
 obtain ⟨hl,hd,hz,hU,ho⟩:=h
 rwa [U_take_all zs _ (by omega),U_take_all xs _ (by omega),U_take_all ys _ (by omega)] at hU
def TakenOff (w:World) (g:Nat) (L:List Value) (xs ys:List Nat) (R:List Value) (m n:Nat) (e:Ending) (w':World):Prop :=
 ∃ T zs,e = .returned (.bool (nz T))/\zs.length = n/\Dg zs/\U xs + 4294967296 ^ n * T = U zs + m * U ys/\Win w' g 86 L zs R/\w.grownBy w' (some g)
theorem takeOff_any (g o:Nat) (L R:List Value) (xs ys:List Nat) (m n c n2 c2:Nat) (A2:Option Addr) (w:World) (hx:xs.length = n) (hy:ys.length = n2) (hL:L.length = o) (hw:Win w g 86 L xs R)
  (hr:Ra w g A2 ys) (hd:Dg xs) (hd2:Dg ys) (hn:n<=10000000) (hn2:n2<=n) (hc:n<=c) (hm:m<=4294967295) :
  Calls Tryz.prog 144 #[.slice (some ⟨g,o,none⟩) n c,.slice A2 n2 c2,.int .u64 ((m:Nat):Int)] w (TakenOff w g L xs ys R m n):=by
 have HX:=qz hx;have HY:=qz hy;have HL:=qz hL;have hgl:=hw.lt;clear hx hy hL;go_enter Tryz.func144,Tryz.ntmps144;go_wp2_with fail
 go_loopw [7,8,14] (fun tv bv iv wr => ∃ k tk br zs,tv = .int .u64 ((tk:Nat):Int)/\bv = .int .u64 ((br:Nat):Int)/\iv = .int .i64 ((k:Nat):Int)/\k<=n/\TakeIn xs ys zs m n k tk br/\Win wr g 86 L zs R/\w.grownBy wr (some g)) (fun _ _ iv _ => n - (intOf iv).toNat)
 case atStart => exact ⟨0,0,0,xs,rfl,rfl,rfl,by omega,⟨HX.out,hd,fun _ _ => rfl,by simp [U],by omega,by omega⟩,hw,World.grownBy.refl _ _⟩
 case round =>
  obtain ⟨k,tk,br,zs,rfl,rfl,rfl,hk,hin,hwin,hgr⟩:=hrel;have HI:=qz hin;have ht1:tk<=4294967295:=hin.2.2.2.2.1;have hb1:br<=1:=hin.2.2.2.2.2;have hzl:Hid (zs.length = n):=qz hin.1;have hzk:Hid (k < n->nth zs k = nth xs k):=qz (fun _ => hin.2.2.1 k (Nat.le_refl k));have hxk:=hd.nth k;have hyk:=hd2.nth k;clear hin;by_cases hkn:k < n
  ·
   have cz:=hwin.cell HL.out (k:=k) (by have:=hzl.out; omega);rw [hzk.out hkn] at cz;have fz:=hwin.frozen (o + k);obtain ⟨hp1,hp2⟩:=take_prod hm hyk ht1;obtain ⟨T,hT⟩:=exq (tk + m * nth ys k);rw [hT] at hp2;have hTb:T < 18446744073709551616:=by omega
   obtain ⟨z,br',hz,hbr,hzr,e1,e2⟩:=take_vals (nth xs k) T br hxk hTb hb1;have hst:=qz (HI.out.step hkn hT hp2 hzr hz hbr);by_cases hk2:k < n2
   ·
    have hTi:(T:Int) = (tk:Int) + (m:Int) * (nth ys k:Int):=by rw [<- hT]; simp
    have e3:((tk:Int) + (m:Int) * (nth ys k:Int)) / 4294967296 = ((T / 4294967296:Nat):Int):=by rw [<- hTi]; omega
    rw [hTi] at e1 e2;have E1:=qz e1;have E2:=qz e2;have E3:=qz e3;clear e1 e2 e3 hTi hT hzr;obtain ⟨b2,o2,hA2,_,cy⟩:=(wrote_ra hgr hr hgl).at_ (k:=k) (by have:=HY.out; omega);subst hA2;go_wp2_with fail;go_roundw
    case rel => exact ⟨k + 1,T / 4294967296,br',zs.set k z,by rw [E3.out],by rw [E2.out],by go_num,by omega,hst.out,hwin.put HL.out (by have:=hzl.out; omega) E1.out,wrote_set hgr _ _⟩
    case measure => simp [intOf]; omega
   ·
    have hy0:nth ys k = 0:=nth_out (by have:=HY.out; omega);obtain rfl:tk = T:=by rw [<- hT,hy0]; simp
    have E1:=qz e1;have E2:=qz e2;clear e1 e2 hT hzr hy0;go_wp2_with fail;go_roundw
    case rel => exact ⟨k + 1,tk / 4294967296,br',zs.set k z,by go_num,by rw [E2.out],by go_num,by omega,hst.out,hwin.put HL.out (by have:=hzl.out; omega) E1.out,wrote_set hgr _ _⟩
    case measure => simp [intOf]; omega
  ·
   obtain rfl:k = n:=by omega
   have hfin:=qz (HI.out.done HX.out (by have:=HY.out; omega));go_wp2_with fail;go_ret;exact ⟨tk + br,zs,congrArg (fun b => Ending.returned (.bool b)) (take_ne tk br),hzl.out,HI.out.2.1,hfin.out,hwin,hgr⟩
end
end Go.Proofs.YtkdmnlihpebbkaaGreat
