import Derived.Test.YtkdmnlihpebbkaaGreatCT2
import Derived.Lib.TrailingZeros
import Derived.RangeFuncNested
import Derived.RangeFuncBound
import Derived.RangeFuncCalls
import Derived.RangeFuncLeaves
import Derived.RangeFuncWrites
import Derived.Shelf.Abstract
import Derived.OwnWalkIn
import Derived.TacticsInMore
import Derived.LoopNIn
import Derived.LoopIn
import Derived.OrdersIn
import Derived.Shelf.Spec.TrailingZeros
import Derived.Deep.MidRow
import Derived.Shelf.Spec.SlicesInsertGrow
import Derived.Shelf.Spec.SlicesInsert
import Derived.Ground.Names2Prog
import Derived.Shelf.Small.Bits
import Derived.Shelf.Small.Wraps
set_option linter.all false
set_option maxHeartbeats 2000000
namespace Go.Proofs.YtkdmnlihpebbkaaGreat
section
def cut13 (n:Nat):List (Int × Int)->List (Nat × Nat)
 | [] => []
 | p :: r => if 0<=p.1/\p.1 < (n:Int)/\0<=p.2/\p.2 < (n:Int) then (p.1.toNat,p.2.toNat) :: cut13 n r else cut13 n r
theorem cut13_append (n:Nat) (l m:List (Int × Int)):cut13 n (l ++ m) = cut13 n l ++ cut13 n m:=by
 induction l with
 | nil => rfl
 | cons p r ih =>
  simp only [List.cons_append,cut13,ih];split <;> rfl
theorem cut13_mem {n:Nat} {l:List (Int × Int)} {a b:Nat}:(a,b)∈cut13 n l↔((a:Int),(b:Int))∈l/\a < n/\b < n:=by
 induction l with
 | nil => simp [cut13]
 | cons p r ih =>
  obtain ⟨x,y⟩:=p;simp only [cut13];split
  ·
   next h =>
   obtain ⟨h1,h2,h3,h4⟩:0<=x/\x < (n:Int)/\0<=y/\y < (n:Int):=h;rw [List.mem_cons,List.mem_cons,ih];constructor
   ·
    rintro (h | h)
    ·
     injection h with h5 h6
     refine ⟨.inl ?_,by omega,by omega⟩;rw [show (a:Int) = x by omega,show (b:Int) = y by omega]
    · exact ⟨.inr h.1,h.2⟩
   ·
    rintro ⟨h | h,h5⟩
    ·
     injection h with h6 h7
     left;rw [show a = x.toNat by omega,show b = y.toNat by omega]
    · exact .inr ⟨h,h5⟩
  ·
   next h =>
   rw [List.mem_cons,ih];constructor
   ·
    rintro ⟨h1,h2⟩;exact ⟨.inr h1,h2⟩
   ·
    rintro ⟨h1 | h1,h2⟩
    ·
     injection h1 with h6 h7
     exact absurd ⟨by show 0<=x; omega,by show x < (n:Int); omega,by show 0<=y; omega,by show y < (n:Int); omega⟩ h
    · exact ⟨h1,h2⟩
theorem cut13_lt {n:Nat} {l:List (Int × Int)} {p:Nat × Nat} (h:p∈cut13 n l):p.1 < n/\p.2 < n:=by
 obtain ⟨a,b⟩:=p;exact (cut13_mem.1 h).2
theorem cut13_len (n:Nat) (l:List (Int × Int)):(cut13 n l).length<=l.length:=by
 induction l with
 | nil => exact Nat.le_refl _
 | cons p r ih =>
  simp only [cut13];split <;> simp <;> omega
def In13 (A:List (Nat × Nat)) (n:Nat):Prop:=∀ p,p∈A->p.1 < n/\p.2 < n
def outs (A:List (Nat × Nat)) (k:Nat):List Nat:=(A.filter (fun p => p.1 == k)).map (·.2)
theorem outs_mem {A:List (Nat × Nat)} {k j:Nat}:j∈outs A k↔(k,j)∈A:=by
 unfold outs;rw [List.mem_map];constructor
 ·
  rintro ⟨⟨a,b⟩,h,rfl⟩;rw [List.mem_filter] at h;obtain ⟨h1,h2⟩:=h;obtain rfl:a = k:=by simpa using h2
  exact h1
 ·
  intro h;exact ⟨(k,j),List.mem_filter.2 ⟨h,by simp⟩,rfl⟩
theorem outs_next (A:List (Nat × Nat)) (a b k:Nat):outs (A ++ [(a,b)]) k = outs A k ++ if a = k then [b] else []:=by
 unfold outs;rw [List.filter_append,List.map_append]
 congr 1
 by_cases h:a = k <;> simp [h]
theorem outs_len (A:List (Nat × Nat)) (k:Nat):(outs A k).length<=A.length:=by
 unfold outs;rw [List.length_map];exact List.length_filter_le _ _
def rem13 (A:List (Nat × Nat)) (os:List Nat) (j:Nat):Nat:=A.countP (fun p => p.2 == j && !(os.contains p.1))
theorem rem13_next (A:List (Nat × Nat)) (a b j:Nat):rem13 (A ++ [(a,b)]) [] j = rem13 A [] j + if b = j then 1 else 0:=by
 unfold rem13;rw [List.countP_append]
 congr 1
 by_cases h:b = j <;> simp [h]
theorem rem13_le (A:List (Nat × Nat)) (os:List Nat) (j:Nat):rem13 A os j<=A.length:=List.countP_le_length
theorem rem13_zero {A:List (Nat × Nat)} {os:List Nat} {j:Nat}:rem13 A os j = 0↔∀ f,(f,j)∈A->f∈os:=by
 unfold rem13;rw [List.countP_eq_zero];constructor
 ·
  intro h f hf;have:=h (f,j) hf;simpa using this
 ·
  rintro h ⟨a,b⟩ hp;by_cases hb:b = j
  ·
   subst hb;have:=h a hp;simp [this]
  · simp [hb]
theorem rem13_told {A:List (Nat × Nat)} {os:List Nat} {i j:Nat} (hi:i ∉ os):rem13 A os j = rem13 A (os ++ [i]) j + (outs A i).countP (fun x => x == j):=by
 unfold rem13 outs
 induction A with
 | nil => rfl
 | cons p r ih =>
  obtain ⟨a,b⟩:=p;by_cases h1:a = i
  ·
   subst h1;by_cases h2:b = j
   ·
    subst h2;simp [hi] at ih ⊢;omega
   ·
    simp [h2,hi] at ih ⊢;omega
  ·
   by_cases h2:b = j
   ·
    subst h2;by_cases h3:a∈os
    ·
     simp [h1,h3] at ih ⊢;omega
    ·
     simp [h1,h3] at ih ⊢;omega
   ·
    simp [h1,h2] at ih ⊢;omega
inductive Way (A:List (Nat × Nat)):Nat->Nat->Prop
 | one {a b:Nat}:(a,b)∈A->Way A a b
 | step {a b c:Nat}:Way A a b->(b,c)∈A->Way A a c
theorem Way.trans {A:List (Nat × Nat)} {a b c:Nat} (h:Way A a b) (k:Way A b c):Way A a c:=by
 induction k with
 | one h1 => exact h.step h1
 | step _ h1 ih => exact ih.step h1
theorem Way.lt {A:List (Nat × Nat)} {n a b:Nat} (hA:In13 A n) (h:Way A a b):a < n/\b < n:=by
 induction h with
 | one h1 => exact hA _ h1
 | step _ h1 ih => exact ⟨ih.1,(hA _ h1).2⟩
open Classical in
noncomputable def wayb (A:List (Nat × Nat)) (a b:Nat):Bool:=decide (Way A a b)
theorem wayb_yes {A:List (Nat × Nat)} {a b:Nat}:wayb A a b = true↔Way A a b:=by
 unfold wayb;exact @decide_eq_true_iff _ (Classical.propDecidable _)
def Rng13 (A:List (Nat × Nat)):Prop:=∃ i,Way A i i
theorem mark13 {A:List (Nat × Nat)} {a:Nat} {m:Nat->Bool} (hs:∀ x,m x = true->Way A a x) (hc:∀ x y,(x = a\/m x = true)->(x,y)∈A->m y = true):∀ y,m y = wayb A a y:=by
 have h1:∀ y,Way A a y->m y = true:=by
  intro y h
  induction h with
  | one h1 => exact hc _ _ (.inl rfl) h1
  | step _ h1 ih => exact hc _ _ (.inr ih) h1
 intro y;rw [Bool.eq_iff_iff,wayb_yes];exact ⟨hs y,h1 y⟩
def Fre13 (A:List (Nat × Nat)) (n:Nat) (os:List Nat) (i:Nat):Prop:=i < n/\i ∉ os/\∀ f,(f,i)∈A->f∈os
inductive Told13 (A:List (Nat × Nat)) (n:Nat):List Nat->Prop
 | nil:Told13 A n []
 | next {os:List Nat} {i:Nat}:Told13 A n os->Fre13 A n os i->(∀ j,j < i->¬ Fre13 A n os j)->Told13 A n (os ++ [i])
def Done13 (A:List (Nat × Nat)) (n:Nat) (os:List Nat):Prop:=Told13 A n os/\∀ i,¬ Fre13 A n os i
theorem Told13.lt {A:List (Nat × Nat)} {n:Nat} {os:List Nat} (h:Told13 A n os):∀ i,i∈os->i < n:=by
 induction h with
 | nil => intro i hi; cases hi
 | next _ h1 _ ih =>
  intro i hi;rw [List.mem_append,List.mem_singleton] at hi;rcases hi with hi | rfl
  · exact ih i hi
  · exact h1.1
theorem Told13.nodup {A:List (Nat × Nat)} {n:Nat} {os:List Nat} (h:Told13 A n os):os.Nodup:=by
 induction h with
 | nil => exact List.nodup_nil
 | next _ h1 _ ih =>
  rw [List.nodup_append];refine ⟨ih,by simp,?_⟩;rintro a ha b hb rfl;rw [List.mem_singleton] at hb;subst hb;exact h1.2.1 ha
theorem nodup13_len:∀ (n:Nat) (l:List Nat),l.Nodup->(∀ x,x∈l->x < n)->l.length<=n:=by
 intro n
 induction n with
 | zero =>
  intro l _ h
  cases l with
  | nil => exact Nat.le_refl _
  | cons a r => exact absurd (h a (by simp)) (by omega)
 | succ n ih =>
  intro l hd h
  have h1:=ih (l.erase n) (hd.erase n) (fun x hx => by
   have h2:=h x (List.mem_of_mem_erase hx)
   have h3:x≠n:=by
    rintro rfl;exact (List.Nodup.mem_erase_iff hd).1 hx |>.1 rfl
   omega)
  by_cases hn:n∈l
  ·
   rw [List.length_erase_of_mem hn] at h1;omega
  ·
   rw [List.erase_of_not_mem hn] at h1;omega
theorem Told13.len {A:List (Nat × Nat)} {n:Nat} {os:List Nat} (h:Told13 A n os):os.length<=n:=nodup13_len n os h.nodup h.lt
theorem full13:∀ (n:Nat) (l:List Nat),l.Nodup->(∀ x,x∈l->x < n)->l.length = n->∀ i,i < n->i∈l:=by
 intro n l hd h hl i hi;refine Classical.byContradiction (fun hn => ?_)
 have:=nodup13_len n (l ++ [i]) (by
  rw [List.nodup_append];refine ⟨hd,by simp,?_⟩;rintro a ha b hb rfl;rw [List.mem_singleton] at hb;subst hb;exact hn ha) (fun x hx => by
  rw [List.mem_append,List.mem_singleton] at hx;rcases hx with hx | rfl
  · exact h x hx
  · exact hi)
 rw [List.length_append,List.length_singleton] at this;omega
theorem Told13.snoc {A:List (Nat × Nat)} {n:Nat} {os:List Nat} {i:Nat} (h:Told13 A n (os ++ [i])):Told13 A n os/\Fre13 A n os i/\∀ j,j < i->¬ Fre13 A n os j:=by
 generalize hq:os ++ [i] = q at h
 cases h with
 | nil => simp at hq
 | next h1 h2 h3 =>
  obtain ⟨rfl,h4⟩:=List.append_inj' hq rfl;injection h4 with h4
  subst h4;exact ⟨h1,h2,h3⟩
theorem Told13.take {A:List (Nat × Nat)} {n:Nat} {os:List Nat} (h:Told13 A n os) (k:Nat):Told13 A n (os.take k):=by
 induction h generalizing k with
 | nil => simpa using Told13.nil
 | @next os i h1 h2 h3 ih =>
  rcases Nat.lt_or_ge os.length k with hk | hk
  ·
   rw [List.take_of_length_le (by simp; omega)];exact .next h1 h2 h3
  ·
   rw [List.take_append_of_le_length hk];exact ih k
theorem least13_same {P:Nat->Prop} {i j:Nat} (hi:P i) (hi2:∀ k,k < i->¬ P k) (hj:P j) (hj2:∀ k,k < j->¬ P k):i = j:=by
 rcases Nat.lt_trichotomy i j with h | h | h
 · exact absurd hi (hj2 i h)
 · exact h
 · exact absurd hj (hi2 j h)
theorem Told13.head {A:List (Nat × Nat)} {n:Nat} {os zs:List Nat} (h:Told13 A n os) (hz:Done13 A n zs):os = zs.take os.length:=by
 induction h with
 | nil => simp
 | @next os i h1 h2 h3 ih =>
  have hl:os.length < zs.length:=by
   refine Nat.lt_of_not_le (fun hle => ?_);rw [List.take_of_length_le hle] at ih;subst ih;exact hz.2 i h2
  have h4:=hz.1.take (os.length + 1);rw [List.take_add_one,List.getElem?_eq_getElem hl,<- ih] at h4;obtain ⟨_,h5,h6⟩:=h4.snoc;obtain rfl:i = zs[os.length]:=least13_same h2 h3 h5 h6;rw [List.length_append,List.length_singleton,List.take_add_one,List.getElem?_eq_getElem hl,<- ih];rfl
theorem Done13.same {A:List (Nat × Nat)} {n:Nat} {os zs:List Nat} (h:Done13 A n os) (hz:Done13 A n zs):os = zs:=by
 have h1:=h.1.head hz;have h2:=hz.1.head h
 have h3:os.length<=zs.length:=by
  have:=congrArg List.length h1;rw [List.length_take] at this;omega
 have h4:zs.length<=os.length:=by
  have:=congrArg List.length h2;rw [List.length_take] at this;omega
 rw [List.take_of_length_le h4] at h1;exact h1
theorem least13_ex {P:Nat->Prop}:(∃ i,P i)->∃ i,P i/\∀ j,j < i->¬ P j:=by
 rintro ⟨i,hi⟩
 induction i using Nat.strongRecOn with
 | ind i ih =>
  rcases Classical.em (∃ j,j < i/\P j) with ⟨j,h1,h2⟩ | h
  · exact ih j h1 h2
  · exact ⟨i,hi,fun j hj hp => h ⟨j,hj,hp⟩⟩
theorem done13_ex (A:List (Nat × Nat)) (n:Nat):∃ os,Done13 A n os:=by
 suffices H:∀ (k:Nat) (os:List Nat),Told13 A n os->n<=os.length + k->∃ zs,Done13 A n zs from H n [] .nil (by simp)
 intro k
 induction k with
 | zero =>
  intro os h hl;refine ⟨os,h,fun i hi => ?_⟩;have h1:=full13 n os h.nodup h.lt (by have:=h.len; omega) i hi.1
  exact hi.2.1 h1
 | succ k ih =>
  intro os h hl;rcases Classical.em (∃ i,Fre13 A n os i) with h1 | h1
  ·
   obtain ⟨i,h2,h3⟩:=least13_ex h1;exact ih (os ++ [i]) (.next h h2 h3) (by rw [List.length_append,List.length_singleton]; omega)
  · exact ⟨os,h,fun i hi => h1 ⟨i,hi⟩⟩
structure Dep13 (A:List (Nat × Nat)) (D:Nat->Nat):Prop where
 up:∀ f t,(f,t)∈A->D f + 1<=D t
 is:∀ j,D j = 0\/∃ f,(f,j)∈A/\D j = D f + 1
theorem max13_ex (D:Nat->Nat) (l:List Nat):∃ m,(∀ f,f∈l->D f + 1<=m)/\(m = 0\/∃ f,f∈l/\m = D f + 1):=by
 induction l with
 | nil => exact ⟨0,by simp,.inl rfl⟩
 | cons a r ih =>
  obtain ⟨m,h1,h2⟩:=ih;rcases Nat.lt_or_ge m (D a + 1) with h | h
  ·
   refine ⟨D a + 1,fun f hf => ?_,.inr ⟨a,by simp,rfl⟩⟩;rw [List.mem_cons] at hf;rcases hf with rfl | hf
   · exact Nat.le_refl _
   ·
    have:=h1 f hf;omega
  ·
   refine ⟨m,fun f hf => ?_,?_⟩
   ·
    rw [List.mem_cons] at hf;rcases hf with rfl | hf
    · exact h
    · exact h1 f hf
   ·
    rcases h2 with rfl | ⟨f,h3,h4⟩
    · exact .inl rfl
    · exact .inr ⟨f,by simp [h3],h4⟩
theorem Told13.before {A:List (Nat × Nat)} {n:Nat} {os:List Nat} (h:Told13 A n os):∀ f t,(f,t)∈A->t∈os->f∈os:=by
 induction h with
 | nil => intro f t _ h; cases h
 | @next os i h1 h2 h3 ih =>
  intro f t hft ht;rw [List.mem_append,List.mem_singleton] at ht ⊢;rcases ht with ht | rfl
  · exact .inl (ih f t hft ht)
  · exact .inl (h2.2.2 f hft)
theorem Told13.deep {A:List (Nat × Nat)} {n:Nat} {os:List Nat} (h:Told13 A n os) :
  ∃ D:Nat->Nat,(∀ f t,(f,t)∈A->t∈os->D f + 1<=D t)/\(∀ j,D j = 0\/∃ f,(f,j)∈A/\D j = D f + 1)/\(∀ j,D j<=os.length)/\(∀ j,j ∉ os->D j = 0):=by
 induction h with
 | nil => exact ⟨fun _ => 0,by simp,fun _ => .inl rfl,fun _ => Nat.zero_le _,fun _ _ => rfl⟩
 | @next os i h1 h2 h3 ih =>
  obtain ⟨D,e1,e2,e3,e4⟩:=ih;have hpre:=h1.before;obtain ⟨m,m1,m2⟩:=max13_ex D ((A.filter (fun p => p.2 == i)).map (·.1))
  have hm:∀ f,f∈(A.filter (fun p => p.2 == i)).map (·.1)↔(f,i)∈A:=by
   intro f;rw [List.mem_map];constructor
   ·
    rintro ⟨⟨a,b⟩,h,rfl⟩;rw [List.mem_filter] at h;obtain ⟨h1,h2⟩:=h;obtain rfl:b = i:=by simpa using h2
    exact h1
   ·
    intro h;exact ⟨(f,i),List.mem_filter.2 ⟨h,by simp⟩,rfl⟩
  have hne:∀ f,(f,i)∈A->f≠i:=by
   rintro f hf rfl;exact h2.2.1 (h2.2.2 f hf)
  refine ⟨upd D i m,?_,?_,?_,?_⟩
  ·
   intro f t hft ht;rw [List.mem_append,List.mem_singleton] at ht;rcases ht with ht | rfl
   ·
    have h5:=hpre f t hft ht
    have h6:f≠i:=by
     rintro rfl;exact h2.2.1 h5
    have h7:t≠i:=by
     rintro rfl;exact h2.2.1 ht
    rw [upd_far _ _ h6,upd_far _ _ h7];exact e1 f t hft ht
   ·
    rw [upd_at,upd_far _ _ (hne f hft)];exact m1 f ((hm f).2 hft)
  ·
   intro j;by_cases hj:j = i
   ·
    subst hj;rw [upd_at];rcases m2 with h | ⟨f,h5,h6⟩
    · exact .inl h
    ·
     have h7:=(hm f).1 h5;exact .inr ⟨f,h7,by rw [upd_far _ _ (hne f h7)]; exact h6⟩
   ·
    rw [upd_far _ _ hj];rcases e2 j with h | ⟨f,h5,h6⟩
    · exact .inl h
    ·
     by_cases hf:f = i
     ·
      subst hf;by_cases hjo:j∈os
      · exact absurd (hpre f j h5 hjo) h2.2.1
      · exact .inl (e4 j hjo)
     · exact .inr ⟨f,h5,by rw [upd_far _ _ hf]; exact h6⟩
  ·
   intro j;rw [List.length_append,List.length_singleton];by_cases hj:j = i
   ·
    subst hj;rw [upd_at];rcases m2 with h | ⟨f,h5,h6⟩
    · omega
    ·
     have:=e3 f;omega
   ·
    rw [upd_far _ _ hj];have:=e3 j;omega
  ·
   intro j hj;rw [List.mem_append,List.mem_singleton] at hj;rw [upd_far _ _ (fun e => hj (.inr e))];exact e4 j (fun h => hj (.inl h))
theorem dep13_ex {A:List (Nat × Nat)} {n:Nat} {os:List Nat} (hA:In13 A n) (h:Told13 A n os) (hl:os.length = n):∃ D,Dep13 A D/\∀ j,D j<=n:=by
 obtain ⟨D,e1,e2,e3,_⟩:=h.deep;exact ⟨D,⟨fun f t hft => e1 f t hft (full13 n os h.nodup h.lt hl t (hA _ hft).2),e2⟩,fun j => by rw [<- hl]; exact e3 j⟩
theorem Dep13.way {A:List (Nat × Nat)} {D:Nat->Nat} (h:Dep13 A D) {a b:Nat} (hw:Way A a b):D a < D b:=by
 induction hw with
 | one h1 => exact h.up _ _ h1
 | step _ h1 ih =>
  have:=h.up _ _ h1;omega
theorem countP13_lt {p q:Nat->Bool} {l:List Nat} (h:∀ x,x∈l->p x = true->q x = true) {y:Nat} (hy:y∈l) (h1:q y = true) (h2:p y = false):l.countP p < l.countP q:=by
 induction l with
 | nil => cases hy
 | cons a r ih =>
  rw [List.countP_cons,List.countP_cons];have hle:r.countP p<=r.countP q:=List.countP_mono_left (fun x hx => h x (by simp [hx]));rw [List.mem_cons] at hy;rcases hy with rfl | hy
  ·
   rw [h1,h2];simp;omega
  ·
   have h3:=ih (fun x hx => h x (by simp [hx])) hy;have h4:=h a (by simp)
   cases hp:p a with
   | false =>
    cases q a <;> simp <;> omega
   | true =>
    rw [h4 hp];simp;omega
theorem Done13.full {A:List (Nat × Nat)} {n:Nat} {os:List Nat} (hA:In13 A n) (h:Done13 A n os) (hr:¬ Rng13 A):os.length = n:=by
 refine Classical.byContradiction (fun hne => ?_);have hlt:os.length < n:=by have:=h.1.len; omega
 have hex:∃ i,i < n/\i ∉ os:=by
  refine Classical.byContradiction (fun hn => ?_);have h1:∀ i,i < n->i∈os:=fun i hi => Classical.byContradiction (fun h2 => hn ⟨i,hi,h2⟩)
  exact absurd (List.Nodup.length_le_of_subset List.nodup_range (l₂:=os) (fun y hy => h1 y (List.mem_range.1 hy))) (by rw [List.length_range]; omega)
 obtain ⟨i0,hi0,hi1⟩:=hex
 have key:∀ (m i:Nat),i < n->i ∉ os->(List.range n).countP (fun x => wayb A x i) = m->False:=by
  intro m
  induction m using Nat.strongRecOn with
  | ind m ih =>
   intro i h1 h2 h3;have h4:=h.2 i
   have h5:∃ f,(f,i)∈A/\f ∉ os:=by
    refine Classical.byContradiction (fun h5 => h4 ⟨h1,h2,fun f hf => ?_⟩);exact Classical.byContradiction (fun h6 => h5 ⟨f,hf,h6⟩)
   obtain ⟨f,hf,hf2⟩:=h5;have hfn:=(hA _ hf).1
   have h6:(List.range n).countP (fun x => wayb A x f) < (List.range n).countP (fun x => wayb A x i) :=
    countP13_lt (fun x _ hx => wayb_yes.2 ((wayb_yes.1 hx).step hf)) (List.mem_range.2 hfn) (wayb_yes.2 (.one hf)) (by
     cases hb:wayb A f f with
     | false => rfl
     | true => exact absurd ⟨f,wayb_yes.1 hb⟩ hr)
   exact ih _ (by omega) f hfn hf2 rfl
 exact key _ i0 hi0 hi1 rfl
theorem Done13.ring {A:List (Nat × Nat)} {n:Nat} {os:List Nat} (hA:In13 A n) (h:Done13 A n os):Rng13 A↔os.length < n:=by
 constructor
 ·
  rintro ⟨i,hi⟩;have h1:=h.1.len;refine Classical.byContradiction (fun h2 => ?_);obtain ⟨D,hD,_⟩:=dep13_ex hA h.1 (by omega);have:=hD.way hi;omega
 ·
  intro h1;refine Classical.byContradiction (fun h2 => ?_);have:=h.full hA h2;omega
end
section
open Go.RowKit
def all11 (T:Nat->Bool) (n:Nat):List Nat:=(List.range n).filter T
theorem all11_len (T:Nat->Bool) (n:Nat):(all11 T n).length<=n:=Nat.le_trans (List.length_filter_le _ _) (by simp)
section
variable {S:Nat->Nat} {n:Nat} {T:Nat->Bool}
end
structure Same (S:Addr->Prop) (W W':World):Prop where
 size:W.heap.size<=W'.heap.size
 cell:∀ p v,S p->W.cell? p = some v->W'.cell? p = some v
theorem Same.refl (S:Addr->Prop) (W:World):Same S W W:=⟨Nat.le_refl _,fun _ _ _ h => h⟩
theorem Same.trans {S:Addr->Prop} {A B C:World} (h:Same S A B) (k:Same S B C):Same S A C:=⟨Nat.le_trans h.size k.size,fun p v hp hv => k.cell p v hp (h.cell p v hp hv)⟩
theorem Same.of_below {S:Addr->Prop} {A B:World} {n:Nat} (h:Below n A B) (hS:∀ p,S p->p.block < n):Same S A B:=⟨h.size,fun p _ hp hv => (h.cell (hS p hp)).trans hv⟩
theorem Same.putObj {S:Addr->Prop} {W:World} {l:Nat} (o':Obj) (hS:∀ p,S p->p.block≠l):Same S W (W.putObj l o') :=
 ⟨by simp,fun p v hp hv => (World.cell?_of_block (World.putObj_heap_other (hS p hp))).trans hv⟩
theorem Same.setCell {S:Addr->Prop} {W:World} {q:Addr} (hS:∀ p,S p->p.block≠q.block) (u:Value):Same S W (W.setCell q u) :=
 ⟨by simp [World.setCell],fun p v hp hv => (World.cell?_setCell_other W q p u (fun e => hS p hp (by rw [e]))).trans hv⟩
theorem Same.setCell' {S:Addr->Prop} {W:World} {q:Addr} (hS:∀ p,S p->p≠q) (u:Value):Same S W (W.setCell q u) :=
 ⟨by simp [World.setCell],fun p v hp hv => (World.cell?_setCell_other W q p u (fun e => hS p hp e.symm)).trans hv⟩
theorem Same.drewN {S:Addr->Prop} {W:World} (n:Nat):Same S W (W.drewN n):=⟨Nat.le_refl _,fun _ _ _ h => h⟩
theorem Same.drew {S:Addr->Prop} {W:World}:Same S W W.drew:=⟨Nat.le_refl _,fun _ _ _ h => h⟩
theorem KeepsOthers.drewN (W:World) (n:Nat):KeepsOthers W (W.drewN n):=⟨Nat.le_refl _,fun _ _ h _ => h⟩
def Goes (F:Fence) (n:Nat) (P:Program) (g:Nat) (lb:Array Value) (encs:Nat->Array Value) (Sk:Nat->Addr->Prop) (N:Nat) (w:World):Prop :=
 ∀ (l:Nat) (J Jx:Nat->World->Prop) (W:World),Below w.heap.size w W->AbidesFrom W.heap.size J->AbidesFrom W.heap.size Jx ->
  (∀ k W1,k < N->J k W1->YieldAt F (n - 1) P l (encs k) W1 fun e W' =>
   (e = .returned (.bool true)/\J (k + 1) W'/\Same (Sk k) W1 W')\/(e = .returned (.bool false)/\Jx k W')) ->
  J 0 W ->
  CallsIn F n P g (#[.func (.yield l) #[] #[]] ++ lb) W fun e W' => (∃ v,e = .returned v)/\(J N W'\/∃ k,k < N/\Jx k W')
def goesPost (B:Nat) (S:Addr->Prop) (I:Nat->World->Prop) (Ix:Code->Nat->World->Prop) (k:Nat) (W:World):Exit->Act->World->Prop
 | .normal,_,W' => KeepsFrom B W W'/\Same S W W'/\I (k + 1) W'
 | .ret,_,W' => KeepsFrom B W W'/\Ix .ret k W'
 | .exit id,_,W' => KeepsFrom B W W'/\Ix (.exit id) k W'
 | .goto t,_,W' => KeepsFrom B W W'/\Ix (.goto t) k W'
 | .panic _,_,_ => False
 | .outgrown,_,_ => False
variable {F:Fence} {n:Nat} {P:Program}
theorem wpIn_rangeFunc_goes {g:Operand} {ps:Array Tmp} {assign body:Code} {Q:Exit->Act->World->Prop} {a:Act} {w:World}
  (hro:F.round = none) (h1:1<=n) {gf:Nat} {lb:Array Value} (hg:a.eval g = .func (.func gf) #[] lb) (hFg:F.fn gf) (eg:∀ args w,(callFunc gf args).run P w = .ok (.enter gf args) w)
  {encs:Nat->Array Value} {Sk:Nat->Addr->Prop} {N:Nat} {w0:World} (hseq:Goes F (n - 1) P gf lb encs Sk N w0) (hSk:∀ k p,Sk k p->p.block < w.heap.size)
  (hb0:Below w0.heap.size w0 w) (hps:∀ k,(encs k).size = ps.size)
  (I:Nat->World->Prop) (Ix:Code->Nat->World->Prop) (hI:OwnFrom w.heap.size I) (hIx:∀ c,OwnFrom w.heap.size (Ix c)) (h0:I 0 w)
  (hround:∀ (l k:Nat) (W:World),k < N->I k W ->
   assign.wpIn (F.inRound l) (n - 1 - 1) P (Exit.then (fun a' W' => W' = W/\∀ Wb,I k Wb->body.wpIn (F.inRound l) (n - 1 - 1) P (goesPost w.heap.size (Sk k) I Ix k Wb) a' Wb) (fun _ _ _ => False))
    { tmps:=(ps.zip (encs k)).foldl (fun t (p,v) => t.setIfInBounds p v) a.tmps,defers:=[] } W)
  (hdone:∀ (D:Nat) (W:World),w.heap.size<=D->I N W->W.heap[D]? = some (.deferred (some []))->Q .normal { a with defers:={ target:=.collected D,args:=#[] } :: a.defers } W)
  (hstop:∀ (D:Nat) (c:Code) (k:Nat) (W:World),w.heap.size<=D->k < N->Ix c k W->W.heap[D]? = some (.deferred (some []))->c.wpIn F n P Q { a with defers:={ target:=.collected D,args:=#[] } :: a.defers } W) :
  (Code.rangeFunc g ps assign body).wpIn F n P Q a w:=by
 refine wpIn_rangeFunc ?_;intro fn hfn;rw [hro];obtain ⟨rec,hrec⟩:∃ rec:LoopState->Option Code->Loop,rec = fun st pe => { state:=st,pending:=pe,fn,tmps:=a.tmps,params:=ps,assign,body,defers:=w.heap.size }:=⟨_,rfl⟩
 obtain ⟨W1,hW1⟩:=exq ((w.alloc (.deferred (some []))).alloc (.loop (rec .ready none)))
 have hL1:W1.heap[w.heap.size + 1]? = some (.loop (rec .ready none)):=by
  rw [<- hW1]; have:=World.alloc_heap_new (w.alloc (.deferred (some []))) (.loop (rec .ready none)); rwa [World.size_alloc] at this
 have hK1:W1.heap[w.heap.size]? = some (.deferred (some [])):=by
  rw [<- hW1]; exact (Below.heap_alloc _ _ _ (by simp)).trans (World.alloc_heap_new w _)
 have hS1:W1.heap.size = w.heap.size + 2:=by rw [<- hW1]; simp
 have hI1:I 0 W1:=by rw [<- hW1]; exact hI.alloc _ (hI.alloc _ h0)
 have hb1:Below w0.heap.size w0 W1:=by
  rw [<- hW1]; exact hb0.trans ((((Below.refl _ w).alloc (Nat.le_refl _) _).alloc (by simp) _).mono hb0.size)
 refine ⟨w.heap.size + 1,[{ target:=.collected w.heap.size,args:=#[] }],W1,{ target:=.fn (.func gf) lb,args:=#[.func (.yield (w.heap.size + 1)) #[] #[]] },W1,gf,
  #[.func (.yield (w.heap.size + 1)) #[] #[]] ++ lb,W1,by rw [<- hW1,hrec]; exact run_enterLoop_outer _ _ _ _ _,by simp only [resolve,hg]; simp [go_sem],
  fun f' hf' => by simp [Target.leads] at hf'; subst hf'; exact hFg,by simp [invoke,go_sem,eg],fun _ => h1,?_⟩
 have hnw:∀ {A:World} {row:Option Nat},(∀ r,row = some r->W1.heap.size<=r/\∃ o:Obj,A.heap[r]? = some o/\o.isWalk = true)->(∀ r,row = some r->w.heap.size<=r/\∃ o:Obj,A.heap[r]? = some o/\o.isCells = false) :=
  fun hr r e => by obtain ⟨hB,o,ho,hw⟩:=hr r e; exact ⟨by omega,o,ho,Obj.not_cells_of_walk hw⟩
 refine (hseq (w.heap.size + 1)
  (fun k W => I k W/\W.heap[w.heap.size + 1]? = some (.loop (rec .ready none))/\W.heap[w.heap.size]? = some (.deferred (some [])))
  (fun k W => ∃ c,Ix c k W/\W.heap[w.heap.size + 1]? = some (.loop (rec .done (some c)))/\W.heap[w.heap.size]? = some (.deferred (some [])))
  W1 hb1
  (fun s A B row hs hg' hr => ⟨hI s A B row hs.1 hg' (hnw hr),(grownBy_keeps hg' (fun r e => (hr r e).2) hs.2.1 rfl).trans hs.2.1,(grownBy_keeps hg' (fun r e => (hr r e).2) hs.2.2 rfl).trans hs.2.2⟩)
  (fun s A B row hs hg' hr => by
   obtain ⟨c,hc,hl,hk⟩:=hs
   exact ⟨c,hIx c s A B row hc hg' (hnw hr),(grownBy_keeps hg' (fun r e => (hr r e).2) hl rfl).trans hl,(grownBy_keeps hg' (fun r e => (hr r e).2) hk rfl).trans hk⟩)
  ?_ ⟨hI1,hL1,hK1⟩).mono ?_
 ·
  rintro k W hkN ⟨hi,hl,hk⟩;have hlt:w.heap.size + 1 < W.heap.size:=(Array.getElem?_eq_some_iff.1 hl).1;have hy:=run_yield (P:=P) (args:=encs k) hl (by rw [hrec]; exact hps k);rw [hrec] at hy;refine ⟨fn,_,assign,body,hy,roundIn_of_wpIn hfn (wpIn_mono (hround _ k W hkN hi) ?_)⟩;clear hy;rintro e a' W' hp;cases e <;> first | exact hp.elim | skip
  obtain ⟨rfl,hbody⟩:=hp;refine ⟨_,run_beginRound hl (by rw [hrec]),?_⟩;obtain ⟨Wb,hWb⟩:=exq (W'.putObj (w.heap.size + 1) (.loop { rec .ready none with state:=.busy }));rw [hWb];have hSp:∀ {X:World} (o':Obj),Same (Sk k) X (X.putObj (w.heap.size + 1) o'):=fun o' => Same.putObj o' (fun p hp e => by have:=hSk k p hp; omega)
  have hl2:Wb.heap[w.heap.size + 1]? = some (.loop { rec .ready none with state:=.busy }):=by rw [<- hWb]; exact World.putObj_heap_same hlt
  have hk2:Wb.heap[w.heap.size]? = some (.deferred (some [])):=by rw [<- hWb]; exact (World.putObj_heap_other (by omega)).trans hk
  have hi2:I k Wb:=by rw [<- hWb]; exact hI.putObj _ hi (by omega) hl rfl
  have hs2:Same (Sk k) W' Wb:=by rw [<- hWb]; exact hSp _
  have fin:∀ (jump:Option Code) (W3:World),KeepsFrom w.heap.size Wb W3 ->
    (Instr.endRound (w.heap.size + 1) jump).run P W3 = .ok (.bool jump.isNone) (W3.putObj (w.heap.size + 1) (.loop (rec (if jump.isNone then .ready else .done) jump))) /\
    W3.heap[w.heap.size + 1]? = some (.loop { rec .ready none with state:=.busy }) /\
    (W3.putObj (w.heap.size + 1) (.loop (rec (if jump.isNone then .ready else .done) jump))).heap[w.heap.size + 1]? = some (.loop (rec (if jump.isNone then .ready else .done) jump)) /\
    (W3.putObj (w.heap.size + 1) (.loop (rec (if jump.isNone then .ready else .done) jump))).heap[w.heap.size]? = some (.deferred (some [])):=fun jump W3 hk3 => by
   have hl3:=hk3.same _ _ (by omega) hl2 rfl;have:=run_endRound (P:=P) jump hl3;rw [hrec] at this ⊢;exact ⟨this,by rw [hrec] at hl3; exact hl3,World.putObj_heap_same (Array.getElem?_eq_some_iff.1 hl3).1,(World.putObj_heap_other (by omega)).trans (hk3.same _ _ (Nat.le_refl _) hk2 rfl)⟩
  refine wpIn_mono (hbody _ hi2) ?_;rintro e a3 W3 hp
  cases e with
  | normal =>
   obtain ⟨hk3,hkp3,hi3⟩:=hp;obtain ⟨hr,hl3,hl4,hk4⟩:=fin none W3 hk3
   exact ⟨_,_,hr,.inl ⟨rfl,⟨hI.putObj _ hi3 (by omega) hl3 rfl,hl4,hk4⟩,(hs2.trans hkp3).trans (hSp _)⟩⟩
  | ret =>
   obtain ⟨hk3,hi3⟩:=hp;obtain ⟨hr,hl3,hl4,hk4⟩:=fin (some .ret) W3 hk3
   exact ⟨_,_,hr,.inr ⟨rfl,.ret,(hIx _).putObj _ hi3 (by omega) hl3 rfl,hl4,hk4⟩⟩
  | exit id =>
   obtain ⟨hk3,hi3⟩:=hp;obtain ⟨hr,hl3,hl4,hk4⟩:=fin (some (.exit id)) W3 hk3
   exact ⟨_,_,hr,.inr ⟨rfl,.exit id,(hIx _).putObj _ hi3 (by omega) hl3 rfl,hl4,hk4⟩⟩
  | goto t =>
   obtain ⟨hk3,hi3⟩:=hp;obtain ⟨hr,hl3,hl4,hk4⟩:=fin (some (.goto t)) W3 hk3
   exact ⟨_,_,hr,.inr ⟨rfl,.goto t,(hIx _).putObj _ hi3 (by omega) hl3 rfl,hl4,hk4⟩⟩
  | panic ch => exact hp.elim
  | outgrown => exact hp.elim
 ·
  rintro e W2 ⟨⟨v,rfl⟩,(⟨hi,hl,hk⟩ | ⟨k,hkN,c,hi,hl,hk⟩)⟩
  · exact ⟨none,_,by have:=run_endLoop (P:=P) hl (by rw [hrec]; simp); rw [hrec] at this; exact this,hdone _ _ (Nat.le_refl _) (hI.putObj _ hi (by omega) hl rfl) ((World.putObj_heap_other (by omega)).trans hk)⟩
  · exact ⟨some c,_,by have:=run_endLoop (P:=P) hl (by rw [hrec]; simp); rw [hrec] at this; exact this,hstop _ c k _ (Nat.le_refl _) hkN ((hIx c).putObj _ hi (by omega) hl rfl) ((World.putObj_heap_other (by omega)).trans hk)⟩
def leavePost (P:Program) (fn:Func) (R:Ending->World->Prop):Exit->Act->World->Prop
 | .normal,a,w | .ret,a,w => LeavesInM Fence.wide 5 P fn a.tmps R a.defers .returning w
 | .outgrown,_,w => R .outgrown w
 | _,_,_ => False
theorem calls_of_leave {f:FuncId} {fn:Func} {c:Code} {args:Array Value} {w:World} {R:Ending->World->Prop} (hf:P.funcs[f]? = some fn) (hb:fn.body = some c)
  (h:c.wp P (leavePost P fn R) { tmps:=args ++ Array.replicate (fn.ntmps - args.size) undef,defers:=[] } w):Calls P f args w R:=by
 refine (callsIn_wide (n:=5)).1 ?_;refine callsIn_of_wp_marks hf hb trivial (wpIn_mono (wpIn_wide.2 h) ?_) rfl;rintro e a W hp;cases e <;> first | exact hp | exact hp.elim
theorem leave_mark {fn:Func} {R:Ending->World->Prop} {tmps:Array Value} {D:Nat} {W:World} {v:Value} (hK:W.heap[D]? = some (.deferred (some [])))
  (hv:(results fn tmps).run P (W.putObj D (.deferred none)) = .ok v (W.putObj D (.deferred none))) (hR:R (.returned v) (W.putObj D (.deferred none))) :
  leavePost P fn R .ret { tmps:=tmps,defers:=[{ target:=.collected D,args:=#[] }] } W :=
 ⟨by simp,.inl ⟨_,_,rfl,run_takeDeferred hK,_,hv,hR⟩⟩
theorem mark_below {w W:World} {B D:Nat} (h:Below B w W) (hK:W.heap[D]? = some (.deferred (some []))) (hD:B<=D):Below B w (W.putObj D (.deferred none)) :=
 h.grown (grownBy_putObj' W D _) (by have:=(Array.getElem?_eq_some_iff.1 hK).1; omega) (fun k e => by cases e; exact hD)
theorem mark_cell {W:World} {D:Nat} (hK:W.heap[D]? = some (.deferred (some []))) {p:Addr} {v:Value} (h:W.cell? p = some v):(W.putObj D (.deferred none)).cell? p = some v :=
 cell_kept h (grownBy_putObj' W D (.deferred none)) (fun r e => by cases e; exact ⟨_,hK,rfl⟩)
end
section
open Go.RowKit
set_option maxRecDepth 100000
def calmOps (ops:Array Oper):Bool:=ops.all fun o => match o.op with
 | .defer _ => false
 | _ => true
variable {P:Program} {ops:Array Oper} {Q:Exit->Act->World->Prop} {md:Region.Mode}
theorem about_wide {l:Nat} {o:Oper} {w:World} {a:Act}:∀ f,o.about P w a.eval = some f->(Fence.wide.inRound l).fn f:=fun _ _ => trivial
theorem wp_inRound {l n:Nat} {o:Oper} {a:Act} {w:World} {K:Act->World->Prop} (hd:∀ c,o.op≠.defer c) (h:o.wp P a w K Q):o.wpIn (Fence.wide.inRound l) n P a w K Q:=by
 refine ⟨about_wide,?_⟩;rw [Oper.semAt_eq _ _ _ hd];unfold Oper.wp at h;generalize (execOp a.eval o).run P w = r at h ⊢
 cases r with
 | ok x w' =>
  cases x <;> first
   | exact h
   | exact h.elim
   | exact ⟨fun h => (by cases h),CallsIn.inRound l (callsIn_wide.2 h)⟩
   | exact ⟨fun h => (by cases h),fun c cs _ => let ⟨v,w',r,s⟩:=h c cs; ⟨v,w',r,stepsIn_wide.2 s⟩⟩
 | halt x w' => cases x <;> exact h
theorem any_inRound {l n:Nat} (hc:calmOps ops = true) (hlo:¬ LetsOut Q):∀ (fuel:Nat) (listed:Array Bool) (a:Act) (w:World),wpAny P md ops Q fuel listed a w->wpAnyIn (Fence.wide.inRound l) n P md ops Q fuel listed a w:=by
 intro fuel
 induction fuel with
 | zero => intro listed a w h; exact h
 | succ fuel ih =>
  intro listed a w h;refine ⟨h.1,fun i hi => ?_⟩;have hw:=h.2 i hi;unfold wpOp at hw;unfold wpOpIn
  cases ho:ops[i]? with
  | none => rw [ho] at hw; exact ih _ _ _ hw
  | some o =>
   rw [ho] at hw;simp only at hw ⊢
   have hd:∀ c,o.op≠.defer c:=fun c e => by
    obtain ⟨hi2,he⟩:=Array.getElem?_eq_some_iff.1 ho;have:=Array.all_eq_true.1 hc i hi2;rw [he,e] at this;cases this
   split at hw
   ·
    next hwt =>
    rw [if_pos hwt];rcases hw with hw | ⟨_,hw⟩
    · exact Oper.wpIn_mono (fun a w h => ih _ a w h) (wp_inRound hd hw)
    · exact absurd hw hlo
   ·
    next hwt =>
    rw [if_neg hwt];exact ⟨about_wide,ih _ _ _ hw⟩
theorem round_held {l n id:Nat} {a:Act} {w:World} {S:World->Prop} (hm:P.follows .mixedOrders = true) (hc:calmOps ops = true) (hlo:¬ LetsOut Q) (hS:S w.drew)
  (h:S w.drew->wpAnyH P .any ops Q S ops.size (Array.replicate ops.size false) a w.drew):(Code.region id ops true).wpIn (Fence.wide.inRound l) n P Q a w :=
 wpIn_region_any hm (any_inRound hc hlo _ _ _ _ (wpAny_of_held _ _ _ _ (h hS)))
theorem grown7_drew (W:World) (r:Option Nat):W.grownBy W.drew r:=⟨rfl,rfl,rfl,Nat.le_refl _,fun _ _ _ => rfl⟩
theorem grown7_below {w w':World} (h:w.grownBy w' none):Below w.heap.size w w':=(Below.refl _ _).grown h (Nat.le_refl _) (fun k hk => by cases hk)
end
section
open Go.RowKit
attribute [local go_sem] Oper.semAt_some
set_option maxRecDepth 100000
theorem blk11_kept {w w':World} {g:Nat} {t:TypeId} {cs:Array Value} (h:Blk w g t cs) {row:Option Nat} (hg:w.grownBy w' row) (hr:∀ r,row = some r->∃ o:Obj,w.heap[r]? = some o/\o.isCells = false):Blk w' g t cs:=by
 refine Blk.grown h hg (fun e => ?_);obtain ⟨o,ho,hc⟩:=hr g e.symm;rw [show w.heap[g]? = _ from h] at ho;cases ho;cases hc
end
section
open Go.RowKit
attribute [local go_sem] Oper.semAt_some
set_option maxRecDepth 100000
theorem info_int11:(Tryz.prog.info? 3).map (fun i => (i.zero,i.size,i.bytes)) = some (some (.int .i64 0),1,8):=by kernel_rfl
theorem ko11_below {W W':World} (h:Below W.heap.size W W'):KeepsOthers W W':=⟨h.size,fun k _ hk _ => (h.block k (Array.getElem?_eq_some_iff.1 hk).1).trans hk⟩
theorem ko11_owned {W W':World} {base:Nat} {e:TypeId} {v:Value} {n:Nat} {xs:List Value} (h:W.ownsRow base e 1 v n xs) (hg:W.grownBy W' v.ownBlock):KeepsOthers W W' :=
 KeepsOthers.of_grownBy hg fun j o hj ho => by
  rcases h.2 with ⟨rfl,_⟩ | ⟨g,cap,cur,rfl,_,hh,_⟩
  · cases hj
  ·
   injection hj with hj
   subst hj;rw [hh] at ho;cases ho;rfl
theorem own11_kept {w w':World} {base:Nat} {e:TypeId} {v:Value} {n:Nat} {xs:List Value} (h:w.ownsRow base e 1 v n xs) {row:Option Nat} (hg:w.grownBy w' row) (hr:∀ r,row = some r->∃ o:Obj,w.heap[r]? = some o/\o.isCells = false):w'.ownsRow base e 1 v n xs:=by
 have hlt:=h.lt;obtain ⟨h1,h2⟩:=h;refine ⟨h1,?_⟩;rcases h2 with h2 | ⟨g,cap,cur,rfl,hb,hh,r⟩
 · exact .inl h2
 ·
  refine .inr ⟨g,cap,cur,rfl,hb,?_,r⟩;rw [hg.block g (hlt g rfl).2 (fun e => by obtain ⟨o,ho,hc⟩:=hr g e.symm; rw [hh] at ho; cases ho; cases hc)];exact hh
theorem own11_base {w:World} {base:Nat} {e:TypeId} {v:Value} {n g:Nat} {xs:List Value} (h:w.ownsRow base e 1 v n xs) (hg:g < base):v.ownBlock≠some g:=fun e' => by
 have:=(h.lt g e').1;omega
section
variable {P:Program} (w:World) {F:Fence} {nF:Nat}
theorem wpListIn_append_11 {ops:Array Oper} {rest:List Oper} {o:Oper} {a:Act} {Q:Exit->Act->World->Prop} (hgd:o.guard = none) (s x:Operand) (t:TypeId)
  (ho:o.op = .call { callee:=.builtin .append,args:=#[s,x],argTypes:=#[t,t] })
  (base:Nat) (e:TypeId) (ht:P.underlying t = some (.slice e)) (z:Value) (bt:Nat) (hinfo:(P.info? e).map (fun i => (i.zero,i.size,i.bytes)) = some (some z,1,bt)) (hzs:z.cells.size = 1)
  (v:Value) (n:Nat) (xs:List Value) (hs:a.eval s = v) (hown:w.ownsRow base e 1 v n xs) (g:Nat) (u:Value) (hx:a.eval x = .slice (some ⟨g,0,none⟩) 1 1) (hc:w.cell? ⟨g,0,none⟩ = some u) (hu:u.oneCell' = true)
  (hb:n + 1<=100000000) (hbt:bt<=1000) (hbase:base<=w.heap.size)
  (h:∀ A' c' w',n + 1<=c'->Hid (w'.ownsRow base e 1 (.slice A' (n + 1) c') (n + 1) (xs ++ [u]))->w.grownBy w' v.ownBlock->wpListIn F nF P ops Q rest (a.put o.dst (.slice A' (n + 1) c')) w') :
  wpListIn F nF P ops Q (o :: rest) a w:=by
 cases hi:P.info? e with
 | none => rw [hi] at hinfo; cases hinfo
 | some i =>
  rw [hi] at hinfo;simp only [Option.map_some,Option.some.injEq,Prod.mk.injEq] at hinfo;obtain ⟨h1,h2,h3⟩:=hinfo;refine wpListIn_append_own w hgd s x t ho base e i z 1 bt ht hi h1 h2 h3 hzs (by omega) v n xs hs hown ⟨g,0,none⟩ 1 1 [u] hx rfl ?_ (by simpa using hu) (by unfold maxLen; omega) ?_ hbase ?_
  ·
   intro j u' hj
   match j,hj with
   | 0,hj =>
    obtain rfl:u = u':=by simpa using hj
    exact hc
   | j + 1,hj => simp at hj
  ·
   have:(n + 1) * bt<=100000000 * 1000:=Nat.mul_le_mul hb hbt;omega
  ·
   intro v' w' h4 h5 _;obtain ⟨A',c',rfl,hc'⟩:=ownsRow_form w' h4;exact h _ _ _ hc' h4 h5
end
structure RowMem (w:World) (O B:Nat) (xs:List Nat) (W:World):Prop where
 below:Below w.heap.size w W
 bsz:B<=W.heap.size
 row:∃ A c,Blk W O 26 #[.slice A xs.length c]/\W.ownsRow B 3 1 (.slice A xs.length c) xs.length (ints xs)
theorem RowMem.kept {w:World} {O B:Nat} {xs:List Nat} {X Y:World} {row:Option Nat} (h:RowMem w O B xs X) (hg:X.grownBy Y row) {C:Nat} (hC:w.heap.size<=C)
  (hr:∀ r,row = some r->C<=r/\∃ o:Obj,X.heap[r]? = some o/\o.isCells = false):RowMem w O B xs Y:=by
 obtain ⟨A,c,h1,h2⟩:=h.row;exact ⟨h.below.grown hg h.below.size (fun r e => by have:=(hr r e).1; omega),Nat.le_trans h.bsz hg.size,A,c,blk11_kept h1 hg (fun r e => (hr r e).2),own11_kept h2 hg (fun r e => (hr r e).2)⟩
theorem RowMem.next {w:World} {O B k:Nat} {xs:List Nat} {x:Nat} {A5:Option Addr} {c5:Nat} {X Y:World} {A6:Option Addr} {c6:Nat} (h:RowMem w O B xs X) (hO:O < B) (hw:w.heap.size<=O) (hx:xs.length = k)
  (hb:Blk X O 26 #[.slice A5 k c5]) (hown:X.ownsRow B 3 1 (.slice A5 k c5) k (ints xs))
  (hg:(X.alloc (.cells #[.int .i64 (x:Int)] 3)).grownBy Y (Value.slice A5 k c5).ownBlock) (h6:Y.ownsRow B 3 1 (.slice A6 (k + 1) c6) (k + 1) (ints xs ++ [.int .i64 (x:Int)])) :
  RowMem w O B (xs ++ [x]) (Y.setCell ⟨O,0,none⟩ (.slice A6 (k + 1) c6))/\Blk Y O 26 #[.slice A5 k c5]/\KeepsOthers X Y/\Below B X Y:=by
 have hOA:=own7_keep hown (b1' X (.cells #[.int .i64 (x:Int)] 3));have hsz:=hg.size;rw [World.size_alloc] at hsz;have hbY:=(hb.alloc (.cells #[.int .i64 (x:Int)] 3)).grown hg (fun e => own11_base hOA hO e.symm);have hX:=h.below;have hBX:=h.bsz;have hxy:Below B X Y:=((b1' X _).mono hBX).grown hg (by simp; omega) (fun r hr => (World.ownsRow.lt hOA r hr).1)
 have hz:(Y.setCell ⟨O,0,none⟩ (.slice A6 (k + 1) c6)).heap.size = Y.heap.size:=by simp [World.setCell]
 refine ⟨⟨(hX.trans (hxy.mono (by omega))).setCell hw _,by rw [hz]; omega,A6,c6,?_,?_⟩,hbY,(ko11_below (b1' X _)).trans (ko11_owned hOA hg),hxy⟩
 ·
  have h1:=hbY.set_ 0 (.slice A6 (k + 1) c6);rw [List.length_append,hx];exact h1
 ·
  rw [List.length_append,hx,ints_append];exact own7_far h6 (grownBy_setCell' Y O _) (own11_base h6 hO)
def RetI (w:World) (xs:List Nat) (e:Ending) (w':World):Prop:=∃ A c,e = .returned (.slice A xs.length c)/\w'.ownsRow w.heap.size 3 1 (.slice A xs.length c) xs.length (ints xs)/\Below w.heap.size w w'
end
section
open Go.RowKit
set_option maxRecDepth 100000
def bls (T:Nat->Bool) (n:Nat):List Value:=(List.range n).map fun i => .bool (T i)
theorem bls_len (T:Nat->Bool) (n:Nat):(bls T n).length = n:=by simp [bls]
theorem bls_get (T:Nat->Bool) {n i:Nat} (h:i < n):(bls T n)[i]? = some (.bool (T i)):=by simp [bls,h]
theorem Rd.rv11 {w:World} {B:Nat} {A:Option Addr} {xs:List Nat} (h:Rd w B A xs):Rv w B A (ints xs):=by
 intro hx;obtain ⟨b,o,h1,h2,h3⟩:=h (by rintro rfl; exact hx rfl);refine ⟨b,o,h1,h2,fun k v hk => ?_⟩
 have hk2:k < xs.length:=by
  have:=(List.getElem?_eq_some_iff.1 hk).1;rw [ints_length] at this;exact this
 rw [ints_get hk2] at hk;injection hk with hk
 rw [<- hk];exact h3 k hk2
theorem bls_at {T:Nat->Bool} {n:Nat} {w:World} {B:Nat} {A:Option Addr} (h:Rv w B A (bls T n)) {i:Nat} (hi:i < n):∃ b o,A = some ⟨b,o,none⟩/\b < B/\w.cell? ⟨b,o + i,none⟩ = some (.bool (T i)):=h.at_ (bls_get T hi)
theorem all11_next (T:Nat->Bool) (i:Nat):all11 T (i + 1) = all11 T i ++ if T i then [i] else []:=by
 unfold all11;rw [List.range_succ,List.filter_append]
 congr 1
 cases h:T i <;> simp [h]
theorem rints11_yes (A B:Option Addr) (xs:List Nat) (n c d:Nat) (w:World) (hl:xs.length = n) (hr:Rd w w.heap.size A xs) (hs:Rd w w.heap.size B xs) (hn:n<=1000000) :
  Calls Tryz.prog 15 #[.slice A n c,.slice B n d] w fun en w' => en = .returned (.bool true)/\w.grownBy w' none:=by
 have HL:=qz hl;have HR:=qz hr;have HS:=qz hs;clear hl hr hs;go_enter Tryz.func15,Tryz.ntmps15;go_wp2_with fail;go_loopw [5] (fun i wr => ∃ k:Nat,i = .int .i64 (k:Int)/\k<=n/\Hid (w.grownBy wr none)) (fun i _ => n - (intOf i).toNat)
 case atStart => exact ⟨0,rfl,by omega,qz (World.grownBy.refl _ _)⟩
 case round =>
  obtain ⟨k,rfl,hk,HG⟩:=hrel;by_cases ht:k < n
  ·
   obtain ⟨a,o,hA,_,ca⟩:=Rd.at_ (Rd.below HR.out (grown7_below HG.out) (Nat.le_refl _)) (show k < xs.length by have:=HL.out; omega);obtain ⟨b,q,hB,_,cb⟩:=Rd.at_ (Rd.below HS.out (grown7_below HG.out) (Nat.le_refl _)) (show k < xs.length by have:=HL.out; omega);subst hA;subst hB;obtain ⟨x,hx⟩:=exq (nth xs k);rw [hx] at ca cb
   have hself:((x:Int) != (x:Int)) = false:=by simp
   have hi0:(0:Int)<=(k:Int):=by omega
   have hi1:(k:Int) < (n:Int):=by omega
   clear hx;go_wp2_with fail
   go_region
   go_wp2_with fail;go_roundw
   case rel => exact ⟨k + 1,by go_num,by omega,qz (HG.out.trans (grown7_drew _ _))⟩
   case measure => simp [intOf]; omega
  ·
   go_wp2_with fail;go_ret;exact ⟨rfl,HG.out⟩
def acs:List (Int × Int)->List Value
 | [] => []
 | p :: r => .int .i64 p.1 :: .int .i64 p.2 :: acs r
def arr (l:List (Int × Int)) (j:Nat):Int × Int:=l.getD j (0,0)
theorem acs_len (l:List (Int × Int)):(acs l).length = l.length * 2:=by
 induction l with
 | nil => rfl
 | cons p r ih => simp [acs,ih]; omega
theorem acs_append (l m:List (Int × Int)):acs (l ++ m) = acs l ++ acs m:=by
 induction l with
 | nil => rfl
 | cons p r ih => simp [acs,ih]
theorem acs_get {l:List (Int × Int)} {j:Nat} (h:j < l.length):(acs l)[j * 2]? = some (.int .i64 (arr l j).1)/\(acs l)[j * 2 + 1]? = some (.int .i64 (arr l j).2):=by
 induction l generalizing j with
 | nil => simp at h
 | cons p r ih =>
  cases j with
  | zero => simp [acs,arr]
  | succ j =>
   obtain ⟨h1,h2⟩:=ih (j:=j) (by simpa using h);have e1:(j + 1) * 2 = j * 2 + 1 + 1:=by omega
   have e2:arr (p :: r) (j + 1) = arr r j:=by simp [arr]
   rw [e1,e2];exact ⟨by simpa [acs] using h1,by simpa [acs] using h2⟩
theorem take_arr {l:List (Int × Int)} {k:Nat} (h:k < l.length):l.take (k + 1) = l.take k ++ [arr l k]:=by
 rw [List.take_add_one,List.getElem?_eq_getElem h];simp [arr,List.getElem?_eq_getElem h]
def Aq (w:World) (B:Nat) (A:Option Addr) (l:List (Int × Int)):Prop:=Rv w B A (acs l)
theorem Aq.at_ {w:World} {B:Nat} {A:Option Addr} {l:List (Int × Int)} {k:Nat} (h:Aq w B A l) (hk:k < l.length) :
  ∃ b o,A = some ⟨b,o,none⟩/\b < B/\w.cell? ⟨b,o + k * 2,none⟩ = some (.int .i64 (arr l k).1)/\w.cell? ⟨b,o + k * 2 + 1,none⟩ = some (.int .i64 (arr l k).2):=by
 obtain ⟨b,o,h1,h2,h3⟩:=h (by intro e; have:=acs_len l; rw [e] at this; simp at this; omega);obtain ⟨h4,h5⟩:=acs_get hk;exact ⟨b,o,h1,h2,h3 _ _ h4,by rw [Nat.add_assoc]; exact h3 _ _ h5⟩
def Ib13 (w:World) (g n:Nat) (h:Nat->Nat):Prop:=∃ cs:Array Value,Blk w g 3 cs/\n<=cs.size/\∀ j,j < n->cs[j]? = some (.int .i64 ((h j:Nat):Int))
theorem Ib13.lt {w:World} {g n:Nat} {h:Nat->Nat} (q:Ib13 w g n h):g < w.heap.size:=by
 obtain ⟨cs,q,_⟩:=q;exact q.lt
theorem Ib13.below {w w':World} {g n B:Nat} {h:Nat->Nat} (q:Ib13 w g n h) (hb:Below B w w') (hg:g < B):Ib13 w' g n h:=by
 obtain ⟨cs,h1,h2⟩:=q;exact ⟨cs,h1.below hb hg,h2⟩
theorem Ib13.grown {w w':World} {g n:Nat} {h:Nat->Nat} {row:Option Nat} (q:Ib13 w g n h) (hb:w.grownBy w' row) (hr:some g≠row):Ib13 w' g n h:=by
 obtain ⟨cs,h1,h2⟩:=q;exact ⟨cs,h1.grown hb hr,h2⟩
theorem Ib13.far {w:World} {g n:Nat} {h:Nat->Nat} (q:Ib13 w g n h) {p:Addr} (hp:g≠p.block) (u:Value):Ib13 (w.setCell p u) g n h:=by
 obtain ⟨cs,h1,h2⟩:=q;exact ⟨cs,h1.far hp u,h2⟩
theorem Ib13.cells {w:World} {g n k:Nat} {h:Nat->Nat} (q:Ib13 w g n h) (hk:k < n):w.cell? ⟨g,k,none⟩ = some (.int .i64 ((h k:Nat):Int))/\w.frozen? ⟨g,k,none⟩ = false:=by
 obtain ⟨cs,h1,h2,h3⟩:=q;exact ⟨by rw [h1.cell]; exact h3 k hk,h1.frozen k⟩
theorem Ib13.put {w:World} {g n k:Nat} {h:Nat->Nat} (q:Ib13 w g n h) (hk:k < n) (x:Nat):Ib13 (w.setCell ⟨g,k,none⟩ (.int .i64 (x:Int))) g n (upd h k x):=by
 obtain ⟨cs,h1,h2,h3⟩:=q;refine ⟨_,h1.set_ _ _,by simpa using h2,fun j hj => ?_⟩;by_cases h5:j = k
 ·
  subst h5;rw [upd_at,Array.getElem?_setIfInBounds_self_of_lt (by omega)]
 · rw [upd_far _ _ h5,Array.getElem?_setIfInBounds_ne (by omega),h3 j hj]
theorem Ib13.congr {w:World} {g n:Nat} {h h':Nat->Nat} (q:Ib13 w g n h) (hh:∀ j,j < n->h j = h' j):Ib13 w g n h':=by
 obtain ⟨cs,h1,h2,h3⟩:=q;exact ⟨cs,h1,h2,fun j hj => by rw [<- hh j hj]; exact h3 j hj⟩
theorem Ib13.rd {w:World} {g:Nat} {xs:List Nat} {h:Nat->Nat} (q:Ib13 w g xs.length h) (hx:∀ j,j < xs.length->nth xs j = h j):Rd w w.heap.size (some ⟨g,0,none⟩) xs:=fun _ =>
 ⟨g,0,rfl,q.lt,fun k hk => by rw [Nat.zero_add,hx k hk]; exact (q.cells hk).1⟩
structure Gr13 (w:World) (B E I n:Nat) (A:List (Nat × Nat)):Prop where
 ends:∃ es:Array Value,Blk w E 26 es/\es.size = n/\∀ k,k < n->∃ Ak ck,es[k]? = some (.slice Ak (outs A k).length ck)/\Rd w B Ak (outs A k)
 into:Ib13 w I n (rem13 A [])
 eb:E < B
 ib:I < B
 part:In13 A n
 most:n<=4096
 many:A.length<=1000000
def gv13 (E I n:Nat):Value:=.agg #[.slice (some ⟨E,0,none⟩) n n,.slice (some ⟨I,0,none⟩) n n]
theorem Gr13.below {w w':World} {B C E I n:Nat} {A:List (Nat × Nat)} (h:Gr13 w B E I n A) (hb:Below C w w') (hC:B<=C):Gr13 w' B E I n A:=by
 obtain ⟨es,h1,h2,h3⟩:=h.ends;refine ⟨⟨es,h1.below hb (by have:=h.eb; omega),h2,fun k hk => ?_⟩,h.into.below hb (by have:=h.ib; omega),h.eb,h.ib,h.part,h.most,h.many⟩;obtain ⟨Ak,ck,h4,h5⟩:=h3 k hk;exact ⟨Ak,ck,h4,h5.below hb hC⟩
theorem Gr13.row {w:World} {B E I n k:Nat} {A:List (Nat × Nat)} (h:Gr13 w B E I n A) (hk:k < n):∃ Ak ck,w.cell? ⟨E,k,none⟩ = some (.slice Ak (outs A k).length ck)/\Rd w B Ak (outs A k):=by
 obtain ⟨es,h1,h2,h3⟩:=h.ends;obtain ⟨Ak,ck,h4,h5⟩:=h3 k hk;exact ⟨Ak,ck,by rw [h1.cell]; exact h4,h5⟩
theorem outs_nth {A:List (Nat × Nat)} {n i k:Nat} (h:In13 A n) (hk:k < (outs A i).length):(i,nth (outs A i) k)∈A/\nth (outs A i) k < n:=by
 have h1:nth (outs A i) k∈outs A i:=by rw [nth_in hk]; exact List.getElem_mem hk
 have h2:=outs_mem.1 h1;exact ⟨h2,(h _ h2).2⟩
theorem has13_any (E I n:Nat) (i:Int) (w:World) (b:Bool) (hb:b = decide (0<=i/\i < (n:Int))) :
  Calls Tryz.prog 132 #[gv13 E I n,.int .i64 i] w fun e w' => e = .returned (.bool b)/\Below w.heap.size w w':=by
 have hk:=Blk.new w 143 #[.slice (some ⟨E,0,none⟩) n n,.slice (some ⟨I,0,none⟩) n n];have c0:=hk.cell 0;have hb1:=b1' w (.cells #[.slice (some ⟨E,0,none⟩) n n,.slice (some ⟨I,0,none⟩) n n] 143);have HB:=qz hb;unfold gv13;clear hk hb;by_cases h1:0<=i
 ·
  go_enter Tryz.func132,Tryz.ntmps132;go_wp2_with fail;go_ret;exact ⟨by rw [HB.out,show decide (0<=i/\i < (n:Int)) = decide (i < (n:Int)) by simp [h1]]; rfl,hb1⟩
 ·
  go_enter Tryz.func132,Tryz.ntmps132;go_wp2_with fail;go_ret;exact ⟨by rw [HB.out,decide_eq_false (by omega)]; rfl,hb1⟩
theorem pop13_any (g r m cc a:Nat) (w:World) (h:w.cell? ⟨g,0,none⟩ = some (.slice (some ⟨r,0,none⟩) (m + 1) cc)) (hf:w.frozen? ⟨g,0,none⟩ = false) (hl:w.cell? ⟨r,m,none⟩ = some (.int .i64 (a:Int))) (hc:m + 1<=cc) (hm:m<=1000000) :
  Calls Tryz.prog 135 #[.pointer (some ⟨g,0,none⟩)] w fun e w' => e = .returned (.int .i64 (a:Int))/\w' = w.setCell ⟨g,0,none⟩ (.slice (some ⟨r,0,none⟩) m cc):=by
 have hw:IntKind.i64.wrap (((m + 1:Nat):Int) - 1) = (m:Int):=by rw [IntKind.wrap_i64]; omega
 obtain ⟨k,hk⟩:=exq (m + 1);rw [hk] at h hw hc;have h0:(0:Int)<=(m:Int):=by omega
 have h1:(m:Int) < (k:Int):=by omega
 have h2:(m:Int)<=(cc:Int):=by omega
 clear hk;go_enter Tryz.func135,Tryz.ntmps135;go_wp2_with fail;go_ret;exact ⟨rfl,rfl⟩
theorem nil_eq13 (w:World) (b o n c:Nat):(binOp .eql 26 (.slice (some ⟨b,o,none⟩) n c) (.slice none 0 0)).run Tryz.prog w = .ok (.bool false) w:=by kernel_rfl
theorem Ib13.of_own {w:World} {base g c n:Nat} {xs:List Nat} (h:w.ownsRow base 3 1 (.slice (some ⟨g,0,none⟩) n c) n (ints xs)) (hl:xs.length = n):Ib13 w g n (nth xs):=by
 rcases h.2 with ⟨h0,_⟩ | ⟨b,cap,cur,hv,hb,hh,hnc,hcm,hcs,htk⟩
 · cases h0
 ·
  injection hv with hA _ hc
  injection hA with hA
  injection hA with hA
  subst hA hc;rw [Nat.mul_one] at hcs htk;refine ⟨cur,hh,by omega,fun j hj => ?_⟩;rw [<- ints_get (by omega),<- htk,List.getElem?_take_of_lt hj,Array.getElem?_toList]
def RetB13 (w:World) (xs:List Nat) (e:Ending) (w':World):Prop:=∃ g c,e = .returned (.slice (some ⟨g,0,none⟩) xs.length c)/\w.heap.size<=g/\Ib13 w' g xs.length (nth xs)/\Below w.heap.size w w'
theorem clone13_any (b n c:Nat) (xs:List Nat) (w:World) (hl:xs.length = n) (hr:Rd w w.heap.size (some ⟨b,0,none⟩) xs) (hn:n<=1000000) :
  Calls Tryz.prog 134 #[.slice (some ⟨b,0,none⟩) n c] w (RetB13 w xs):=by
 have HP:Hid (RetB13 w xs = fun e w' => ∃ g c,e = .returned (.slice (some ⟨g,0,none⟩) xs.length c)/\w.heap.size<=g/\Ib13 w' g xs.length (nth xs)/\Below w.heap.size w w'):=qz rfl;have hq:=nil_eq13 w b 0 n c;have HR:=qz (Rd.rv11 (hr.alloc (Nat.le_refl _) (.cells #[] 3)));have HL:=qz hl;clear hr hl;go_enter Tryz.func134,Tryz.ntmps134
 go_wp2_with (at_builtin; go_loud (refine wpList_append_rv _ rfl (.tmp 5) (.tmp 6) 26 rfl w.heap.size 3 (.int .i64 0) 8 Tryz.underlying26 info_int11 rfl (by omega) (.slice (some ⟨w.heap.size,0,none⟩) 0 0) 0 [] rfl (made7 w w.heap.size (Nat.le_refl _) 3) w.heap.size (some ⟨b,0,none⟩) n (ints xs) _ (by rw [ints_length]; exact HL.out) rfl HR.out (ints_one xs) (by omega) (by simp) ?_); intro A' c' w3 hc3 hown3 hg3 hbl3)
 have HB3:Hid (Below w.heap.size w w3):=qz ((b1' w _).grown hg3 (by simp) (fun r hr => by cases hr; exact Nat.le_refl _))
 have hA3:∃ g,A' = some ⟨g,0,none⟩/\w.heap.size<=g:=by
  rcases hown3.out.2 with ⟨h0,_⟩ | ⟨g,cap,cur,hv,hb,_⟩
  ·
   injection h0 with h0
   subst h0;rcases hbl3 with h1 | h1 <;> cases h1
  ·
   injection hv with hA
   exact ⟨g,hA,hb⟩
 obtain ⟨g,rfl,hg⟩:=hA3;have HG:=qz hg;clear hg3 hbl3 hg;go_wp2_with fail;go_ret;rw [HP.out];have h1:=hown3.out;rw [Nat.zero_add,List.nil_append] at h1;exact ⟨g,c',by rw [HL.out]; simp,HG.out,by rw [HL.out]; exact Ib13.of_own h1 HL.out,HB3.out⟩
end
section
open Go.Shelf
def Tryz.lays128_ren:Go.Shelf.Ren:=⟨fun | 128 => 152 | n => n,fun | 51 => 86 | 3 => 3 | 4 => 4 | 46 => 111 | 5 => 5 | 9 => 9 | n => n,fun | n => n⟩
theorem Tryz.lays128:Go.Proofs.Lays.n128 Tryz.prog Tryz.lays128_ren:={
 mixed:=by kernel_rfl
 f128:=Tryz.func152.trans (congrArg some (by kernel_rfl))
 t3:=Tryz.underlying3
 a3:=Tryz.isAgg3
 z3:=Tryz.sizeOf3
 v3:=Tryz.zeroValue3
 t4:=Tryz.underlying4
 a4:=Tryz.isAgg4
 z4:=Tryz.sizeOf4
 v4:=Tryz.zeroValue4
 t5:=Tryz.underlying5
 a5:=Tryz.isAgg5
 z5:=Tryz.sizeOf5
 v5:=Tryz.zeroValue5
 t9:=Tryz.underlying9
 a9:=Tryz.isAgg9
 z9:=Tryz.sizeOf9
 v9:=Tryz.zeroValue9
 t46:=Tryz.underlying111
 a46:=Tryz.isAgg111
 z46:=Tryz.sizeOf111
 v46:=Tryz.zeroValue111
 t51:=Tryz.underlying86
 a51:=Tryz.isAgg86
 z51:=Tryz.sizeOf86
 v51:=Tryz.zeroValue86 }
theorem Tryz.bits_Len32 (x:Int) (w:World) (h0:0<=x) (h1:x<=4294967295) :
  Calls Tryz.prog 152 #[.int .u32 x] w fun e w' => e = .returned (.int .i64 (Lib.bitLen x.toNat))/\w' = w:=Any.bits_Len32 Tryz.lays128 x w h0 h1
def Tryz.lays133_ren:Go.Shelf.Ren:=⟨fun | 133 => 141 | 128 => 152 | n => n,fun | 51 => 86 | 3 => 3 | 4 => 4 | 46 => 111 | 5 => 5 | 9 => 9 | n => n,fun | n => n⟩
theorem Tryz.lays133:Go.Proofs.Lays.n133 Tryz.prog Tryz.lays133_ren:={
 mixed:=by kernel_rfl
 f128:=Tryz.func152.trans (congrArg some (by kernel_rfl))
 f133:=Tryz.func141.trans (congrArg some (by kernel_rfl))
 t3:=Tryz.underlying3
 a3:=Tryz.isAgg3
 z3:=Tryz.sizeOf3
 v3:=Tryz.zeroValue3
 t4:=Tryz.underlying4
 a4:=Tryz.isAgg4
 z4:=Tryz.sizeOf4
 v4:=Tryz.zeroValue4
 t5:=Tryz.underlying5
 a5:=Tryz.isAgg5
 z5:=Tryz.sizeOf5
 v5:=Tryz.zeroValue5
 t9:=Tryz.underlying9
 a9:=Tryz.isAgg9
 z9:=Tryz.sizeOf9
 v9:=Tryz.zeroValue9
 t46:=Tryz.underlying111
 a46:=Tryz.isAgg111
 z46:=Tryz.sizeOf111
 v46:=Tryz.zeroValue111
 t51:=Tryz.underlying86
 a51:=Tryz.isAgg86
 z51:=Tryz.sizeOf86
 v51:=Tryz.zeroValue86 }
theorem Tryz.bits_LeadingZeros32 (x:Int) (w:World) (h0:0<=x) (h1:x<=4294967295) :
  Calls Tryz.prog 141 #[.int .u32 x] w fun e w' => e = .returned (.int .i64 (32 - (Lib.bitLen x.toNat:Int)))/\w' = w:=Any.bits_LeadingZeros32 Tryz.lays133 x w h0 h1
def Tryz.laysNm221_ren:Go.Shelf.Ren:=⟨fun | 21 => 150 | 27 => 154 | 28 => 155 | 35 => 157 | 39 => 159 | n => n,fun | 22 => 26 | 3 => 3 | 4 => 4 | 0 => 0 | n => n,fun | n => n⟩
theorem Tryz.laysNm221:Go.Proofs.Lays2.n21 Tryz.prog Tryz.laysNm221_ren:={
 mixed:=by kernel_rfl
 f21:=Tryz.func150.trans (congrArg some (by kernel_rfl))
 f27:=Tryz.func154.trans (congrArg some (by kernel_rfl))
 f28:=Tryz.func155.trans (congrArg some (by kernel_rfl))
 f35:=Tryz.func157.trans (congrArg some (by kernel_rfl))
 f39:=Tryz.func159.trans (congrArg some (by kernel_rfl))
 t0:=Tryz.underlying0
 a0:=Tryz.isAgg0
 z0:=Tryz.sizeOf0
 v0:=Tryz.zeroValue0
 t3:=Tryz.underlying3
 a3:=Tryz.isAgg3
 z3:=Tryz.sizeOf3
 v3:=Tryz.zeroValue3
 t4:=Tryz.underlying4
 a4:=Tryz.isAgg4
 z4:=Tryz.sizeOf4
 v4:=Tryz.zeroValue4
 t22:=Tryz.underlying26
 a22:=Tryz.isAgg26
 z22:=Tryz.sizeOf26
 v22:=Tryz.zeroValue26
 i3:=by kernel_rfl }
end
end Go.Proofs.YtkdmnlihpebbkaaGreat
