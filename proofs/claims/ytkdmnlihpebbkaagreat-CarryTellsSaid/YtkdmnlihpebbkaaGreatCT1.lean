import Derived.WalkKit
import Derived.Lib.Hide
import Derived.Deep.Draws
import Derived.Maps.AppendAt
import Derived.OwnWalk
import Derived.Test.YtkdmnlihpebbkaaGreatProg
import Derived.BigQuiet
import Derived.Outline
import Derived.LoopTactic
import Derived.ProofKit
set_option linter.all false
set_option maxHeartbeats 400000
namespace Go.Proofs.YtkdmnlihpebbkaaGreat
section
open Go.RowKit
def nth (xs:List Nat) (i:Nat):Nat:=xs.getD i 0
theorem nth_out {xs:List Nat} {i:Nat} (h:xs.length<=i):nth xs i = 0:=by simp [nth,List.getElem?_eq_none h]
theorem nth_in {xs:List Nat} {i:Nat} (h:i < xs.length):nth xs i = xs[i]:=by simp [nth,List.getElem?_eq_getElem h]
theorem nth_take {xs:List Nat} {k j:Nat} (h:j < k):nth (xs.take k) j = nth xs j:=by simp [nth,List.getElem?_take,h]
theorem nth_cons (d:Nat) (xs:List Nat) (j:Nat):nth (d :: xs) (j + 1) = nth xs j:=by simp [nth]
theorem nth_cons0 (d:Nat) (xs:List Nat):nth (d :: xs) 0 = d:=by simp [nth]
def ints (xs:List Nat):List Value:=xs.map fun (d:Nat) => Value.int .i64 (d:Int)
theorem ints_length (xs:List Nat):(ints xs).length = xs.length:=by simp [ints]
theorem ints_get {xs:List Nat} {k:Nat} (h:k < xs.length):(ints xs)[k]? = some (.int .i64 ((nth xs k:Nat):Int)):=by
 simp [ints,nth_in h,List.getElem?_eq_getElem h]
theorem ints_one (xs:List Nat):∀ u∈ints xs,u.oneCell' = true:=by
 intro u hu;simp only [ints,List.mem_map] at hu;obtain ⟨d,_,rfl⟩:=hu;rfl
theorem ints_append (xs ys:List Nat):ints (xs ++ ys) = ints xs ++ ints ys:=by simp [ints]
def Rd (w:World) (B:Nat) (A:Option Addr) (xs:List Nat):Prop :=
 xs≠[]->∃ b o,A = some ⟨b,o,none⟩/\b < B/\∀ k,k < xs.length->w.cell? ⟨b,o + k,none⟩ = some (.int .i64 ((nth xs k:Nat):Int))
theorem Rd.at_ {w:World} {B:Nat} {A:Option Addr} {xs:List Nat} {k:Nat} (h:Rd w B A xs) (hk:k < xs.length) :
  ∃ b o,A = some ⟨b,o,none⟩/\b < B/\w.cell? ⟨b,o + k,none⟩ = some (.int .i64 ((nth xs k:Nat):Int)):=by
 obtain ⟨b,o,h1,h2,h3⟩:=h (by rintro rfl; simp at hk);exact ⟨b,o,h1,h2,h3 k hk⟩
theorem Rd.keep {w w':World} {B:Nat} {A:Option Addr} {xs:List Nat} (h:Rd w B A xs) (hk:∀ p:Addr,p.block < B->w'.cell? p = w.cell? p):Rd w' B A xs:=by
 intro hx;obtain ⟨b,o,h1,h2,h3⟩:=h hx;exact ⟨b,o,h1,h2,fun k hkl => (hk _ h2).trans (h3 k hkl)⟩
theorem Rd.more {w:World} {B B':Nat} {A:Option Addr} {xs:List Nat} (h:Rd w B A xs) (hB:B<=B'):Rd w B' A xs:=by
 intro hx;obtain ⟨b,o,h1,h2,h3⟩:=h hx;exact ⟨b,o,h1,by omega,h3⟩
theorem Rd.below {w w':World} {B C:Nat} {A:Option Addr} {xs:List Nat} (h:Rd w B A xs) (hb:Below C w w') (hB:B<=C):Rd w' B A xs:=h.keep fun _ hp => hb.cell (by omega)
theorem Rd.alloc {w:World} {B:Nat} {A:Option Addr} {xs:List Nat} (h:Rd w B A xs) (hB:B<=w.heap.size) (o:Obj):Rd (w.alloc o) B A xs :=
 h.keep fun p hp => World.cell?_alloc_lt w o p (by omega)
theorem Rd.take {w:World} {B:Nat} {A:Option Addr} {xs:List Nat} (h:Rd w B A xs) (k:Nat):Rd w B A (xs.take k):=by
 intro hx;have hne:xs≠[]:=by rintro rfl; simp at hx
 obtain ⟨b,o,h1,h2,h3⟩:=h hne;refine ⟨b,o,h1,h2,fun j hj => ?_⟩;simp only [List.length_take] at hj;rw [h3 j (by omega),nth_take (by omega)]
theorem Rd.nil (w:World) (B:Nat) (A:Option Addr):Rd w B A []:=fun h => absurd rfl h
theorem Rd.of_own {w:World} {base:Nat} {e:TypeId} {A:Option Addr} {c n:Nat} {xs:List Nat} (h:w.ownsRow base e 1 (.slice A n c) n (ints xs)):Rd w w.heap.size A xs:=by
 intro hx;have hl:=h.1;rw [ints_length] at hl;have hpos:0 < xs.length:=List.length_pos_iff.2 hx;rcases h.2 with ⟨_,h0⟩ | ⟨g,cap,cur,hv,_,hh,_⟩
 · omega
 ·
  have hA:A = some ⟨g,0,none⟩:=by injection hv
  subst hA;refine ⟨g,0,rfl,?_,fun k hk => ?_⟩
  ·
   rcases Nat.lt_or_ge g w.heap.size with hlt | hge
   · exact hlt
   · rw [Array.getElem?_eq_none hge] at hh; cases hh
  ·
   have hc:=h.cells (g:=g) rfl k _ (ints_get hk);rw [Nat.zero_add];unfold Addr.add at hc;split at hc
   · next h0 => subst h0; exact hc
   · simpa using hc
def Blk (w:World) (g:Nat) (t:TypeId) (cs:Array Value):Prop:=w.heap[g]? = some (.cells cs t (0,0))
theorem Blk.lt {w:World} {g:Nat} {t:TypeId} {cs:Array Value} (h:Blk w g t cs):g < w.heap.size:=by
 rcases Nat.lt_or_ge g w.heap.size with hlt | hge
 · exact hlt
 · unfold Blk at h; rw [Array.getElem?_eq_none hge] at h; cases h
theorem Blk.cell {w:World} {g:Nat} {t:TypeId} {cs:Array Value} (h:Blk w g t cs) (i:Nat):w.cell? ⟨g,i,none⟩ = cs[i]?:=cell_of_row w g i cs t (0,0) h
theorem Blk.frozen {w:World} {g:Nat} {t:TypeId} {cs:Array Value} (h:Blk w g t cs) (i:Nat):w.frozen? ⟨g,i,none⟩ = false:=by
 unfold Blk at h;simp [World.frozen?,h]
theorem Blk.new (w:World) (t:TypeId) (cs:Array Value):Blk (w.alloc (.cells cs t)) w.heap.size t cs:=heap_alloc_new w _
theorem Blk.alloc {w:World} {g:Nat} {t:TypeId} {cs:Array Value} (h:Blk w g t cs) (o:Obj):Blk (w.alloc o) g t cs:=(Below.heap_alloc w o g h.lt).trans h
theorem Blk.set_ {w:World} {g:Nat} {t:TypeId} {cs:Array Value} (h:Blk w g t cs) (i:Nat) (u:Value):Blk (w.setCell ⟨g,i,none⟩ u) g t (cs.setIfInBounds i u):=by
 unfold Blk at h ⊢;simp [World.setCell,Array.getElem?_modify,h]
theorem Blk.far {w:World} {g:Nat} {t:TypeId} {cs:Array Value} (h:Blk w g t cs) {p:Addr} (hp:g≠p.block) (u:Value):Blk (w.setCell p u) g t cs:=(Below.heap_setCell w p u g hp).trans h
theorem Blk.below {w w':World} {g:Nat} {t:TypeId} {cs:Array Value} {B:Nat} (h:Blk w g t cs) (hb:Below B w w') (hg:g < B):Blk w' g t cs:=(hb.block g hg).trans h
theorem Blk.grown {w w':World} {g:Nat} {t:TypeId} {cs:Array Value} {row:Option Nat} (h:Blk w g t cs) (hb:w.grownBy w' row) (hg:some g≠row):Blk w' g t cs:=(hb.block g h.lt hg).trans h
theorem Rd.of_own_set {w:World} {base:Nat} {e:TypeId} {A:Option Addr} {c n:Nat} {xs:List Nat} (h:w.ownsRow base e 1 (.slice A n c) n (ints xs)) {p:Addr} (hp:p.block < base) (u:Value) :
  Rd (w.setCell p u) (w.setCell p u).heap.size A xs:=Rd.of_own (ownsRow_setCell_below h hp u)
def Fr (L:Nat) (A:Option Addr) (xs:List Nat):Prop:=xs≠[]->∃ b o,A = some ⟨b,o,none⟩/\L<=b
theorem Fr.of_own {w:World} {base:Nat} {e:TypeId} {A:Option Addr} {c n:Nat} {xs:List Nat} (h:w.ownsRow base e 1 (.slice A n c) n (ints xs)):Fr base A xs:=by
 intro hx;have hl:=h.1;rw [ints_length] at hl;have hpos:0 < xs.length:=List.length_pos_iff.2 hx;rcases h.2 with ⟨_,h0⟩ | ⟨g,cap,cur,hv,hg,_,_⟩
 · omega
 ·
  injection hv with hA
  exact ⟨g,0,hA,hg⟩
theorem Fr.more {L L':Nat} {A:Option Addr} {xs:List Nat} (h:Fr L A xs) (hl:L'<=L):Fr L' A xs:=fun hx => by
 obtain ⟨b,o,h1,h2⟩:=h hx;exact ⟨b,o,h1,by omega⟩
theorem Rd.old {w:World} {B L:Nat} {A:Option Addr} {xs:List Nat} (h:Rd w B A xs) (hf:Fr L A xs) {p:Addr} (hp:p.block < L) (u:Value):Rd (w.setCell p u) B A xs:=by
 intro hx;obtain ⟨b,o,h1,h2,h3⟩:=h hx;obtain ⟨b',o',h4,h5⟩:=hf hx;rw [h1] at h4;injection h4 with h4
 injection h4 with h4
 subst h4;refine ⟨b,o,h1,h2,fun k hk => ?_⟩;rw [World.cell?_setCell_other w p _ u (fun e => by rw [e] at hp; simp at hp; omega)];exact h3 k hk
theorem Rd.one (w:World) (d:Nat) (t:TypeId):Rd (w.alloc (.cells #[.int .i64 (d:Int)] t)) (w.heap.size + 1) (some ⟨w.heap.size,0,none⟩) [d]:=by
 intro _;refine ⟨w.heap.size,0,rfl,by omega,fun k hk => ?_⟩;simp only [List.length_singleton] at hk;obtain rfl:k = 0:=by omega
 rw [nth_cons0];exact cell_one_new w (.int .i64 (d:Int)) t 0 _ rfl
theorem owns_lit (w:World) (base:Nat) (e:TypeId) (xs:List Nat) (hb:base<=w.heap.size) (hl:xs.length<=maxLen) :
  (w.alloc (.cells (ints xs).toArray e)).ownsRow base e 1 (.slice (some ⟨w.heap.size,0,none⟩) xs.length xs.length) xs.length (ints xs) :=
 ⟨by simp [ints_length],.inr ⟨w.heap.size,xs.length,(ints xs).toArray,rfl,hb,heap_alloc_new w _,Nat.le_refl _,hl,by simp [ints_length],by
  rw [List.take_of_length_le (by simp [ints_length])]⟩⟩
section
variable {P:Program} (w:World)
theorem run_append_ints (base:Nat) (t ty e:TypeId) (ht:P.underlying t = some (.slice e)) (hinfo:(P.info? e).map (fun i => (i.zero,i.size,i.bytes)) = some (some (.int .i64 0),1,8))
  (v:Value) (xs:List Nat) (hown:w.ownsRow base e 1 v xs.length (ints xs)) (B:Nat) (A:Option Addr) (ys:List Nat) (c:Nat) (hr:Rd w B A ys)
  (hb:xs.length + ys.length<=10000000) (hbase:base<=w.heap.size) :
  ∃ v' w',(Builtin.append_ #[t,t] ty #[v,.slice A ys.length c]).run P w = .ok v' w'/\w'.ownsRow base e 1 v' (xs.length + ys.length) (ints (xs ++ ys))/\w.grownBy w' v.ownBlock /\
   (v'.ownBlock = v.ownBlock\/v'.ownBlock = some w.heap.size):=by
 obtain ⟨i,hi,hz,hsz,hby⟩:=info_parts hinfo
 cases A with
 | none =>
  obtain rfl:ys = []:=by
   rcases ys with _ | ⟨y,r⟩
   · rfl
   ·
    obtain ⟨_,_,h,_⟩:=hr (by simp);cases h
  refine ⟨v,w,?_,by simpa using hown,World.grownBy.refl w _,.inl rfl⟩;rcases hown.2 with ⟨rfl,_⟩ | ⟨g,cap,cur,rfl,_,_,hnc,_⟩
  · simp [Builtin.append_,run_underlying ht,sizeOf,typeInfo,hi,Builtin.lenOf,Builtin.firstCells]
  · simp [Builtin.append_,run_underlying ht,sizeOf,typeInfo,hi,Builtin.lenOf,Builtin.firstCells,hnc,storeCells]
 | some ad =>
  have hcells:∀ j u,(ints ys)[j]? = some u->w.cell? (ad.add j) = some u:=by
   intro j u hu
   have hj:j < ys.length:=by
    rcases Nat.lt_or_ge j ys.length with h | h
    · exact h
    · rw [List.getElem?_eq_none (by rw [ints_length]; exact h)] at hu; cases hu
   rw [ints_get hj] at hu;injection hu with hu
   obtain ⟨b,o,h1,_,h2⟩:=hr.at_ hj;injection h1 with h1
   subst h1;rw [<- hu,<- h2];unfold Addr.add;split
   · next h0 => subst h0; rfl
   · rfl
  obtain ⟨v',w',hrun,h2,h3,_,h5⟩:=run_append_own_at (P:=P) w base t ty e i (.int .i64 0) 1 8 ht hi hz hsz hby rfl (by decide) v xs.length (ints xs) hown ad ys.length c (ints ys)
   (by simp [ints_length]) hcells (ints_one ys) (by unfold maxLen; omega) (by omega) hbase
  exact ⟨v',w',hrun,by rw [ints_append]; exact h2,h3,h5⟩
theorem ownsRow_form {base:Nat} {e:TypeId} {v:Value} {n:Nat} {xs:List Value} (h:w.ownsRow base e 1 v n xs):∃ A c,v = .slice A n c/\n<=c:=by
 rcases h.2 with ⟨rfl,rfl⟩ | ⟨g,cap,cur,rfl,_,_,h1,_⟩
 · exact ⟨none,0,rfl,Nat.le_refl _⟩
 · exact ⟨_,cap,rfl,h1⟩
theorem wpList_append_ints {ops:Array Oper} {rest:List Oper} {o:Oper} {a:Act} {Q:Exit->Act->World->Prop} (hgd:o.guard = none) (s x:Operand) (t:TypeId)
  (ho:o.op = .call { callee:=.builtin .append,args:=#[s,x],argTypes:=#[t,t] })
  (base:Nat) (e:TypeId) (ht:P.underlying t = some (.slice e)) (hinfo:(P.info? e).map (fun i => (i.zero,i.size,i.bytes)) = some (some (.int .i64 0),1,8))
  (v:Value) (xs:List Nat) (hs:a.eval s = v) (hown:w.ownsRow base e 1 v xs.length (ints xs)) (B:Nat) (A:Option Addr) (m:Nat) (ys:List Nat) (c:Nat) (hm:ys.length = m)
  (hx:a.eval x = .slice A m c) (hr:Rd w B A ys) (hb:xs.length + ys.length<=10000000) (hbase:base<=w.heap.size)
  (h:∀ A' n' c' w',Hid ((xs ++ ys).length = n')->n'<=c'->Hid (w'.ownsRow base e 1 (.slice A' n' c') n' (ints (xs ++ ys)))->w.grownBy w' v.ownBlock->wpList P ops Q rest (a.put o.dst (.slice A' n' c')) w') :
  wpList P ops Q (o :: rest) a w:=by
 subst hm;refine wpList_plain hgd fun K hK => ?_
 obtain ⟨v',w',hrun,h2,h3,h4⟩:=run_append_ints (P:=P) w base t o.type e ht hinfo v xs hown B A ys c hr hb hbase;unfold Oper.wp execOp;simp only [ho,resolve,invoke,builtin,Sem.run_bind,Sem.run_pure,Result.andThen_ok,List.map_toArray,List.map_cons,List.map_nil,hs,hx,hrun];rw [<- List.length_append] at h2;obtain ⟨A',c',rfl,hc'⟩:=ownsRow_form w' h2
 exact hK _ _ (h A' _ c' w' rfl hc' h2 h3)
end
theorem step_append_ints {P:Program} (w:World) {ops:Array Oper} {o:Oper} {a:Act} {K:Act->World->Prop} {Q:Exit->Act->World->Prop} {E:Prop} (hgd:o.guard = none) (s x:Operand) (t:TypeId)
  (ho:o.op = .call { callee:=.builtin .append,args:=#[s,x],argTypes:=#[t,t] })
  (base:Nat) (e:TypeId) (ht:P.underlying t = some (.slice e)) (hinfo:(P.info? e).map (fun i => (i.zero,i.size,i.bytes)) = some (some (.int .i64 0),1,8))
  (v:Value) (xs:List Nat) (hs:a.eval s = v) (hown:w.ownsRow base e 1 v xs.length (ints xs)) (B:Nat) (A:Option Addr) (m:Nat) (ys:List Nat) (c:Nat) (hm:ys.length = m)
  (hx:a.eval x = .slice A m c) (hr:Rd w B A ys) (hb:xs.length + ys.length<=10000000) (hbase:base<=w.heap.size)
  (h:∀ A' n' c' w',Hid ((xs ++ ys).length = n')->n'<=c'->Hid (w'.ownsRow base e 1 (.slice A' n' c') n' (ints (xs ++ ys)))->w.grownBy w' v.ownBlock->K (a.put o.dst (.slice A' n' c')) w') :
  if Region.wanted o (yielded ops a.tmps) = true then Oper.wp P o a w K Q else E:=by
 subst hm;have hw:Region.wanted o (yielded ops a.tmps) = true:=by simp [Region.wanted,hgd]
 rw [if_pos hw];obtain ⟨v',w',hrun,h2,h3,h4⟩:=run_append_ints (P:=P) w base t o.type e ht hinfo v xs hown B A ys c hr hb hbase;unfold Oper.wp execOp;simp only [ho,resolve,invoke,builtin,Sem.run_bind,Sem.run_pure,Result.andThen_ok,List.map_toArray,List.map_cons,List.map_nil,hs,hx,hrun];rw [<- List.length_append] at h2
 obtain ⟨A',c',rfl,hc'⟩:=ownsRow_form w' h2;exact h A' _ c' w' rfl hc' h2 h3
end
section
def V:List Nat->Nat
 | [] => 0
 | d :: r => d + 65536 * V r
def Dig (xs:List Nat):Prop:=∀ d∈xs,d < 65536
def Can (xs:List Nat):Prop:=Dig xs/\(xs≠[]->nth xs (xs.length - 1)≠0)
theorem Dig.nil:Dig []:=by intro d h; simp at h
theorem Dig.nth {xs:List Nat} (h:Dig xs) (i:Nat):nth xs i < 65536:=by
 by_cases hi:i < xs.length
 · rw [nth_in hi]; exact h _ (List.getElem_mem hi)
 · rw [nth_out (by omega)]; omega
theorem Dig.snoc {xs:List Nat} (h:Dig xs) {d:Nat} (hd:d < 65536):Dig (xs ++ [d]):=by
 intro x hx;rcases List.mem_append.1 hx with hx | hx
 · exact h x hx
 · simp at hx; omega
theorem Dig.take {xs:List Nat} (h:Dig xs) (k:Nat):Dig (xs.take k):=fun d hd => h d (List.mem_of_mem_take hd)
theorem Dig.tail {d:Nat} {xs:List Nat} (h:Dig (d :: xs)):Dig xs:=fun x hx => h x (List.mem_cons_of_mem _ hx)
theorem Can.nil:Can []:=⟨Dig.nil,fun h => absurd rfl h⟩
theorem V_append (xs ys:List Nat):V (xs ++ ys) = V xs + 65536 ^ xs.length * V ys:=by
 induction xs with
 | nil => simp [V]
 | cons d r ih =>
  simp only [List.cons_append,V,ih,List.length_cons,Nat.pow_succ]
  grind
theorem V_snoc (xs:List Nat) (d:Nat):V (xs ++ [d]) = V xs + 65536 ^ xs.length * d:=by
 rw [V_append]; simp [V]
theorem take_snoc (xs:List Nat) (k:Nat) (h:k < xs.length):xs.take (k + 1) = xs.take k ++ [nth xs k]:=by
 rw [List.take_succ_eq_append_getElem h,nth_in h]
theorem V_take_succ (xs:List Nat) (k:Nat):V (xs.take (k + 1)) = V (xs.take k) + 65536 ^ k * nth xs k:=by
 by_cases h:k < xs.length
 ·
  rw [take_snoc xs k h,V_snoc];simp [Nat.min_eq_left (Nat.le_of_lt h)]
 ·
  rw [List.take_of_length_le (by omega),List.take_of_length_le (by omega),nth_out (by omega)];simp
theorem V_take_all (xs:List Nat) (k:Nat) (h:xs.length<=k):V (xs.take k) = V xs:=by rw [List.take_of_length_le h]
theorem V_drop (xs:List Nat) (k:Nat):V (xs.drop k) = nth xs k + 65536 * V (xs.drop (k + 1)):=by
 by_cases h:k < xs.length
 · rw [List.drop_eq_getElem_cons h,nth_in h]; rfl
 · rw [List.drop_eq_nil_of_le (by omega),List.drop_eq_nil_of_le (by omega),nth_out (by omega)]; rfl
theorem V_lt {xs:List Nat} (h:Dig xs):V xs < 65536 ^ xs.length:=by
 induction xs with
 | nil => simp [V]
 | cons d r ih =>
  have h1:=ih h.tail;have h2:=h d (by simp);simp only [V,List.length_cons,Nat.pow_succ];omega
theorem V_ge {xs:List Nat} (h:Can xs) (hx:xs≠[]):65536 ^ (xs.length - 1)<=V xs:=by
 obtain ⟨hd,hl⟩:=h;have h0:=hl hx;have hlen:=List.length_pos_iff.2 hx
 have e:xs = xs.take (xs.length - 1) ++ [nth xs (xs.length - 1)]:=by
  rw [<- take_snoc xs (xs.length - 1) (by omega),List.take_of_length_le (by omega)]
 have e2:V xs = V (xs.take (xs.length - 1)) + 65536 ^ (xs.length - 1) * nth xs (xs.length - 1):=by
  have:=V_take_succ xs (xs.length - 1);rw [V_take_all xs _ (by omega)] at this;exact this
 have:65536 ^ (xs.length - 1) * 1<=65536 ^ (xs.length - 1) * nth xs (xs.length - 1):=Nat.mul_le_mul_left _ (by omega);omega
theorem Can.len {xs:List Nat} (h:Can xs) {k:Nat} (hk:V xs < 65536 ^ k):xs.length<=k:=by
 rcases Nat.lt_or_ge k xs.length with hlt | hge
 ·
  have hx:xs≠[]:=by rintro rfl; simp at hlt
  have h1:=V_ge h hx;have h2:65536 ^ k<=65536 ^ (xs.length - 1):=Nat.pow_le_pow_right (by omega) (by omega);omega
 · exact hge
theorem V_zeros (xs:List Nat) (n:Nat) (h:∀ j,n<=j->nth xs j = 0):V (xs.take n) = V xs:=by
 induction xs generalizing n with
 | nil => simp
 | cons d r ih =>
  cases n with
  | zero =>
   have h0:d = 0:=by have:=h 0 (Nat.zero_le _); rwa [nth_cons0] at this
   have:=ih 0 (fun j _ => by have:=h (j + 1) (Nat.zero_le _); rwa [nth_cons] at this);simp only [List.take_zero,V] at this ⊢
   omega
  | succ n =>
   have:=ih n (fun j hj => by have:=h (j + 1) (by omega); rwa [nth_cons] at this);simp only [List.take_succ_cons,V,this]
theorem Can.of_take {xs:List Nat} (h:Dig xs) {n:Nat} (hn:n<=xs.length) (h0:0 < n->nth xs (n - 1)≠0):Can (xs.take n):=by
 refine ⟨h.take n,fun hx => ?_⟩;have hl:(xs.take n).length = n:=by simp [hn]
 have hpos:0 < n:=by
  rcases Nat.eq_zero_or_pos n with h | h
  · subst h; simp at hx
  · exact h
 rw [hl,nth_take (by omega)];exact h0 hpos
theorem Can.snoc {xs:List Nat} (h:Dig xs) {d:Nat} (hd:d < 65536) (h0:d≠0):Can (xs ++ [d]):=by
 refine ⟨h.snoc hd,fun _ => ?_⟩;simp only [nth,List.length_append,List.length_singleton,Nat.add_sub_cancel];simpa using h0
theorem V_inj {xs ys:List Nat} (hx:Can xs) (hy:Can ys) (h:V xs = V ys):xs = ys:=by
 induction xs generalizing ys with
 | nil =>
  cases ys with
  | nil => rfl
  | cons d r =>
   have:=V_ge hy (by simp);have h2:0 < 65536 ^ ((d :: r).length - 1):=Nat.pow_pos (by omega);rw [<- h] at this;simp only [V] at this
   omega
 | cons d r ih =>
  cases ys with
  | nil =>
   have:=V_ge hx (by simp);have h2:0 < 65536 ^ ((d :: r).length - 1):=Nat.pow_pos (by omega);rw [h] at this;simp only [V] at this
   omega
  | cons e s =>
   have h1:=hx.1 d (by simp);have h2:=hy.1 e (by simp);simp only [V] at h;have hde:d = e:=by omega
   have hrs:V r = V s:=by omega
   have tl:∀ {a:Nat} {l:List Nat},Can (a :: l)->Can l:=by
    intro a l hc;refine ⟨hc.1.tail,fun hl => ?_⟩;have:=hc.2 (by simp);have hlen:=List.length_pos_iff.2 hl;rw [show (a :: l).length - 1 = (l.length - 1) + 1 by simp; omega,nth_cons] at this;exact this
   rw [hde,ih (tl hx) (tl hy) hrs]
end
section
open Go.RowKit
def u32s (xs:List Nat):List Value:=xs.map fun (d:Nat) => Value.int .u32 (d:Int)
theorem u32s_length (xs:List Nat):(u32s xs).length = xs.length:=by simp [u32s]
theorem u32s_get {xs:List Nat} {k:Nat} (h:k < xs.length):(u32s xs)[k]? = some (.int .u32 ((nth xs k:Nat):Int)):=by
 simp [u32s,nth_in h,List.getElem?_eq_getElem h]
theorem u32s_one (xs:List Nat):∀ u∈u32s xs,u.oneCell' = true:=by
 intro u hu;simp only [u32s,List.mem_map] at hu;obtain ⟨d,_,rfl⟩:=hu;rfl
theorem u32s_append (xs ys:List Nat):u32s (xs ++ ys) = u32s xs ++ u32s ys:=by simp [u32s]
def Ra (w:World) (B:Nat) (A:Option Addr) (xs:List Nat):Prop :=
 xs≠[]->∃ b o,A = some ⟨b,o,none⟩/\b < B/\∀ k,k < xs.length->w.cell? ⟨b,o + k,none⟩ = some (.int .u32 ((nth xs k:Nat):Int))
theorem Ra.at_ {w:World} {B:Nat} {A:Option Addr} {xs:List Nat} {k:Nat} (h:Ra w B A xs) (hk:k < xs.length) :
  ∃ b o,A = some ⟨b,o,none⟩/\b < B/\w.cell? ⟨b,o + k,none⟩ = some (.int .u32 ((nth xs k:Nat):Int)):=by
 obtain ⟨b,o,h1,h2,h3⟩:=h (by rintro rfl; simp at hk);exact ⟨b,o,h1,h2,h3 k hk⟩
theorem Ra.keep {w w':World} {B:Nat} {A:Option Addr} {xs:List Nat} (h:Ra w B A xs) (hk:∀ p:Addr,p.block < B->w'.cell? p = w.cell? p):Ra w' B A xs:=by
 intro hx;obtain ⟨b,o,h1,h2,h3⟩:=h hx;exact ⟨b,o,h1,h2,fun k hkl => (hk _ h2).trans (h3 k hkl)⟩
theorem Ra.more {w:World} {B B':Nat} {A:Option Addr} {xs:List Nat} (h:Ra w B A xs) (hB:B<=B'):Ra w B' A xs:=by
 intro hx;obtain ⟨b,o,h1,h2,h3⟩:=h hx;exact ⟨b,o,h1,by omega,h3⟩
theorem Ra.below {w w':World} {B C:Nat} {A:Option Addr} {xs:List Nat} (h:Ra w B A xs) (hb:Below C w w') (hB:B<=C):Ra w' B A xs:=h.keep fun _ hp => hb.cell (by omega)
theorem Ra.alloc {w:World} {B:Nat} {A:Option Addr} {xs:List Nat} (h:Ra w B A xs) (hB:B<=w.heap.size) (o:Obj):Ra (w.alloc o) B A xs :=
 h.keep fun p hp => World.cell?_alloc_lt w o p (by omega)
theorem Ra.take {w:World} {B:Nat} {A:Option Addr} {xs:List Nat} (h:Ra w B A xs) (k:Nat):Ra w B A (xs.take k):=by
 intro hx;have hne:xs≠[]:=by rintro rfl; simp at hx
 obtain ⟨b,o,h1,h2,h3⟩:=h hne;refine ⟨b,o,h1,h2,fun j hj => ?_⟩;simp only [List.length_take] at hj;rw [h3 j (by omega),nth_take (by omega)]
theorem Ra.nil (w:World) (B:Nat) (A:Option Addr):Ra w B A []:=fun h => absurd rfl h
theorem Ra.of_own {w:World} {base:Nat} {e:TypeId} {A:Option Addr} {c n:Nat} {xs:List Nat} (h:w.ownsRow base e 1 (.slice A n c) n (u32s xs)):Ra w w.heap.size A xs:=by
 intro hx;have hl:=h.1;rw [u32s_length] at hl;have hpos:0 < xs.length:=List.length_pos_iff.2 hx;rcases h.2 with ⟨_,h0⟩ | ⟨g,cap,cur,hv,_,hh,_⟩
 · omega
 ·
  have hA:A = some ⟨g,0,none⟩:=by injection hv
  subst hA;refine ⟨g,0,rfl,?_,fun k hk => ?_⟩
  ·
   rcases Nat.lt_or_ge g w.heap.size with hlt | hge
   · exact hlt
   · rw [Array.getElem?_eq_none hge] at hh; cases hh
  ·
   have hc:=h.cells (g:=g) rfl k _ (u32s_get hk);rw [Nat.zero_add];unfold Addr.add at hc;split at hc
   · next h0 => subst h0; exact hc
   · simpa using hc
def Fa (L:Nat) (A:Option Addr) (xs:List Nat):Prop:=xs≠[]->∃ b o,A = some ⟨b,o,none⟩/\L<=b
theorem Fa.of_own {w:World} {base:Nat} {e:TypeId} {A:Option Addr} {c n:Nat} {xs:List Nat} (h:w.ownsRow base e 1 (.slice A n c) n (u32s xs)):Fa base A xs:=by
 intro hx;have hl:=h.1;rw [u32s_length] at hl;have hpos:0 < xs.length:=List.length_pos_iff.2 hx;rcases h.2 with ⟨_,h0⟩ | ⟨g,cap,cur,hv,hg,_,_⟩
 · omega
 ·
  injection hv with hA
  exact ⟨g,0,hA,hg⟩
theorem Fa.more {L L':Nat} {A:Option Addr} {xs:List Nat} (h:Fa L A xs) (hl:L'<=L):Fa L' A xs:=fun hx => by
 obtain ⟨b,o,h1,h2⟩:=h hx;exact ⟨b,o,h1,by omega⟩
theorem Ra.old {w:World} {B L:Nat} {A:Option Addr} {xs:List Nat} (h:Ra w B A xs) (hf:Fa L A xs) {p:Addr} (hp:p.block < L) (u:Value):Ra (w.setCell p u) B A xs:=by
 intro hx;obtain ⟨b,o,h1,h2,h3⟩:=h hx;obtain ⟨b',o',h4,h5⟩:=hf hx;rw [h1] at h4;injection h4 with h4
 injection h4 with h4
 subst h4;refine ⟨b,o,h1,h2,fun k hk => ?_⟩;rw [World.cell?_setCell_other w p _ u (fun e => by rw [e] at hp; simp at hp; omega)];exact h3 k hk
theorem Ra.one (w:World) (d:Nat) (t:TypeId):Ra (w.alloc (.cells #[.int .u32 (d:Int)] t)) (w.heap.size + 1) (some ⟨w.heap.size,0,none⟩) [d]:=by
 intro _;refine ⟨w.heap.size,0,rfl,by omega,fun k hk => ?_⟩;simp only [List.length_singleton] at hk;obtain rfl:k = 0:=by omega
 rw [nth_cons0];exact cell_one_new w (.int .u32 (d:Int)) t 0 _ rfl
section
variable {P:Program} (w:World)
theorem run_append_u32s (base:Nat) (t ty e:TypeId) (ht:P.underlying t = some (.slice e)) (hinfo:(P.info? e).map (fun i => (i.zero,i.size,i.bytes)) = some (some (.int .u32 0),1,4))
  (v:Value) (xs:List Nat) (hown:w.ownsRow base e 1 v xs.length (u32s xs)) (B:Nat) (A:Option Addr) (ys:List Nat) (c:Nat) (hr:Ra w B A ys)
  (hb:xs.length + ys.length<=10000000) (hbase:base<=w.heap.size) :
  ∃ v' w',(Builtin.append_ #[t,t] ty #[v,.slice A ys.length c]).run P w = .ok v' w'/\w'.ownsRow base e 1 v' (xs.length + ys.length) (u32s (xs ++ ys))/\w.grownBy w' v.ownBlock /\
   (v'.ownBlock = v.ownBlock\/v'.ownBlock = some w.heap.size):=by
 obtain ⟨i,hi,hz,hsz,hby⟩:=info_parts hinfo
 cases A with
 | none =>
  obtain rfl:ys = []:=by
   rcases ys with _ | ⟨y,r⟩
   · rfl
   ·
    obtain ⟨_,_,h,_⟩:=hr (by simp);cases h
  refine ⟨v,w,?_,by simpa using hown,World.grownBy.refl w _,.inl rfl⟩;rcases hown.2 with ⟨rfl,_⟩ | ⟨g,cap,cur,rfl,_,_,hnc,_⟩
  · simp [Builtin.append_,run_underlying ht,sizeOf,typeInfo,hi,Builtin.lenOf,Builtin.firstCells]
  · simp [Builtin.append_,run_underlying ht,sizeOf,typeInfo,hi,Builtin.lenOf,Builtin.firstCells,hnc,storeCells]
 | some ad =>
  have hcells:∀ j u,(u32s ys)[j]? = some u->w.cell? (ad.add j) = some u:=by
   intro j u hu
   have hj:j < ys.length:=by
    rcases Nat.lt_or_ge j ys.length with h | h
    · exact h
    · rw [List.getElem?_eq_none (by rw [u32s_length]; exact h)] at hu; cases hu
   rw [u32s_get hj] at hu;injection hu with hu
   obtain ⟨b,o,h1,_,h2⟩:=hr.at_ hj;injection h1 with h1
   subst h1;rw [<- hu,<- h2];unfold Addr.add;split
   · next h0 => subst h0; rfl
   · rfl
  obtain ⟨v',w',hrun,h2,h3,_,h5⟩:=run_append_own_at (P:=P) w base t ty e i (.int .u32 0) 1 4 ht hi hz hsz hby rfl (by decide) v xs.length (u32s xs) hown ad ys.length c (u32s ys)
   (by simp [u32s_length]) hcells (u32s_one ys) (by unfold maxLen; omega) (by omega) hbase
  exact ⟨v',w',hrun,by rw [u32s_append]; exact h2,h3,h5⟩
theorem wpList_append_u32s {ops:Array Oper} {rest:List Oper} {o:Oper} {a:Act} {Q:Exit->Act->World->Prop} (hgd:o.guard = none) (s x:Operand) (t:TypeId)
  (ho:o.op = .call { callee:=.builtin .append,args:=#[s,x],argTypes:=#[t,t] })
  (base:Nat) (e:TypeId) (ht:P.underlying t = some (.slice e)) (hinfo:(P.info? e).map (fun i => (i.zero,i.size,i.bytes)) = some (some (.int .u32 0),1,4))
  (v:Value) (xs:List Nat) (hs:a.eval s = v) (hown:w.ownsRow base e 1 v xs.length (u32s xs)) (B:Nat) (A:Option Addr) (m:Nat) (ys:List Nat) (c:Nat) (hm:ys.length = m)
  (hx:a.eval x = .slice A m c) (hr:Ra w B A ys) (hb:xs.length + ys.length<=10000000) (hbase:base<=w.heap.size)
  (h:∀ A' n' c' w',Hid ((xs ++ ys).length = n')->n'<=c'->Hid (w'.ownsRow base e 1 (.slice A' n' c') n' (u32s (xs ++ ys)))->w.grownBy w' v.ownBlock->wpList P ops Q rest (a.put o.dst (.slice A' n' c')) w') :
  wpList P ops Q (o :: rest) a w:=by
 subst hm;refine wpList_plain hgd fun K hK => ?_
 obtain ⟨v',w',hrun,h2,h3,h4⟩:=run_append_u32s (P:=P) w base t o.type e ht hinfo v xs hown B A ys c hr hb hbase;unfold Oper.wp execOp;simp only [ho,resolve,invoke,builtin,Sem.run_bind,Sem.run_pure,Result.andThen_ok,List.map_toArray,List.map_cons,List.map_nil,hs,hx,hrun];rw [<- List.length_append] at h2;obtain ⟨A',c',rfl,hc'⟩:=ownsRow_form w' h2
 exact hK _ _ (h A' _ c' w' rfl hc' h2 h3)
end
end
section
def U:List Nat->Nat
 | [] => 0
 | d :: r => d + 4294967296 * U r
def Dg (xs:List Nat):Prop:=∀ d∈xs,d < 4294967296
def Cn (xs:List Nat):Prop:=Dg xs/\(xs≠[]->nth xs (xs.length - 1)≠0)
theorem Dg.nil:Dg []:=by intro d h; simp at h
theorem Dg.nth {xs:List Nat} (h:Dg xs) (i:Nat):nth xs i < 4294967296:=by
 by_cases hi:i < xs.length
 · rw [nth_in hi]; exact h _ (List.getElem_mem hi)
 · rw [nth_out (by omega)]; omega
theorem Dg.snoc {xs:List Nat} (h:Dg xs) {d:Nat} (hd:d < 4294967296):Dg (xs ++ [d]):=by
 intro x hx;rcases List.mem_append.1 hx with hx | hx
 · exact h x hx
 · simp at hx; omega
theorem Dg.take {xs:List Nat} (h:Dg xs) (k:Nat):Dg (xs.take k):=fun d hd => h d (List.mem_of_mem_take hd)
theorem Dg.drop {xs:List Nat} (h:Dg xs) (k:Nat):Dg (xs.drop k):=fun d hd => h d (List.mem_of_mem_drop hd)
theorem Dg.tail {d:Nat} {xs:List Nat} (h:Dg (d :: xs)):Dg xs:=fun x hx => h x (List.mem_cons_of_mem _ hx)
theorem Cn.nil:Cn []:=⟨Dg.nil,fun h => absurd rfl h⟩
theorem U_append (xs ys:List Nat):U (xs ++ ys) = U xs + 4294967296 ^ xs.length * U ys:=by
 induction xs with
 | nil => simp [U]
 | cons d r ih =>
  simp only [List.cons_append,U,ih,List.length_cons,Nat.pow_succ]
  grind
theorem U_snoc (xs:List Nat) (d:Nat):U (xs ++ [d]) = U xs + 4294967296 ^ xs.length * d:=by
 rw [U_append]; simp [U]
theorem U_take_succ (xs:List Nat) (k:Nat):U (xs.take (k + 1)) = U (xs.take k) + 4294967296 ^ k * nth xs k:=by
 by_cases h:k < xs.length
 ·
  rw [take_snoc xs k h,U_snoc];simp [Nat.min_eq_left (Nat.le_of_lt h)]
 ·
  rw [List.take_of_length_le (by omega),List.take_of_length_le (by omega),nth_out (by omega)];simp
theorem U_take_all (xs:List Nat) (k:Nat) (h:xs.length<=k):U (xs.take k) = U xs:=by rw [List.take_of_length_le h]
theorem U_drop (xs:List Nat) (k:Nat):U (xs.drop k) = nth xs k + 4294967296 * U (xs.drop (k + 1)):=by
 by_cases h:k < xs.length
 · rw [List.drop_eq_getElem_cons h,nth_in h]; rfl
 · rw [List.drop_eq_nil_of_le (by omega),List.drop_eq_nil_of_le (by omega),nth_out (by omega)]; rfl
theorem U_lt {xs:List Nat} (h:Dg xs):U xs < 4294967296 ^ xs.length:=by
 induction xs with
 | nil => simp [U]
 | cons d r ih =>
  have h1:=ih h.tail;have h2:=h d (by simp);simp only [U,List.length_cons,Nat.pow_succ];omega
theorem U_ge {xs:List Nat} (h:Cn xs) (hx:xs≠[]):4294967296 ^ (xs.length - 1)<=U xs:=by
 obtain ⟨hd,hl⟩:=h;have h0:=hl hx;have hlen:=List.length_pos_iff.2 hx
 have e:xs = xs.take (xs.length - 1) ++ [nth xs (xs.length - 1)]:=by
  rw [<- take_snoc xs (xs.length - 1) (by omega),List.take_of_length_le (by omega)]
 have e2:U xs = U (xs.take (xs.length - 1)) + 4294967296 ^ (xs.length - 1) * nth xs (xs.length - 1):=by
  have:=U_take_succ xs (xs.length - 1);rw [U_take_all xs _ (by omega)] at this;exact this
 have:4294967296 ^ (xs.length - 1) * 1<=4294967296 ^ (xs.length - 1) * nth xs (xs.length - 1):=Nat.mul_le_mul_left _ (by omega);omega
theorem Cn.len {xs:List Nat} (h:Cn xs) {k:Nat} (hk:U xs < 4294967296 ^ k):xs.length<=k:=by
 rcases Nat.lt_or_ge k xs.length with hlt | hge
 ·
  have hx:xs≠[]:=by rintro rfl; simp at hlt
  have h1:=U_ge h hx;have h2:4294967296 ^ k<=4294967296 ^ (xs.length - 1):=Nat.pow_le_pow_right (by omega) (by omega);omega
 · exact hge
theorem U_zeros (xs:List Nat) (n:Nat) (h:∀ j,n<=j->nth xs j = 0):U (xs.take n) = U xs:=by
 induction xs generalizing n with
 | nil => simp
 | cons d r ih =>
  cases n with
  | zero =>
   have h0:d = 0:=by have:=h 0 (Nat.zero_le _); rwa [nth_cons0] at this
   have:=ih 0 (fun j _ => by have:=h (j + 1) (Nat.zero_le _); rwa [nth_cons] at this);simp only [List.take_zero,U] at this ⊢
   omega
  | succ n =>
   have:=ih n (fun j hj => by have:=h (j + 1) (by omega); rwa [nth_cons] at this);simp only [List.take_succ_cons,U,this]
theorem Cn.of_take {xs:List Nat} (h:Dg xs) {n:Nat} (hn:n<=xs.length) (h0:0 < n->nth xs (n - 1)≠0):Cn (xs.take n):=by
 refine ⟨h.take n,fun hx => ?_⟩;have hl:(xs.take n).length = n:=by simp [hn]
 have hpos:0 < n:=by
  rcases Nat.eq_zero_or_pos n with h | h
  · subst h; simp at hx
  · exact h
 rw [hl,nth_take (by omega)];exact h0 hpos
theorem Cn.snoc {xs:List Nat} (h:Dg xs) {d:Nat} (hd:d < 4294967296) (h0:d≠0):Cn (xs ++ [d]):=by
 refine ⟨h.snoc hd,fun _ => ?_⟩;simp only [nth,List.length_append,List.length_singleton,Nat.add_sub_cancel];simpa using h0
theorem U_inj {xs ys:List Nat} (hx:Cn xs) (hy:Cn ys) (h:U xs = U ys):xs = ys:=by
 induction xs generalizing ys with
 | nil =>
  cases ys with
  | nil => rfl
  | cons d r =>
   have:=U_ge hy (by simp);have h2:0 < 4294967296 ^ ((d :: r).length - 1):=Nat.pow_pos (by omega);rw [<- h] at this;simp only [U] at this
   omega
 | cons d r ih =>
  cases ys with
  | nil =>
   have:=U_ge hx (by simp);have h2:0 < 4294967296 ^ ((d :: r).length - 1):=Nat.pow_pos (by omega);rw [h] at this;simp only [U] at this
   omega
  | cons e s =>
   have h1:=hx.1 d (by simp);have h2:=hy.1 e (by simp);simp only [U] at h;have hde:d = e:=by omega
   have hrs:U r = U s:=by omega
   have tl:∀ {a:Nat} {l:List Nat},Cn (a :: l)->Cn l:=by
    intro a l hc;refine ⟨hc.1.tail,fun hl => ?_⟩;have:=hc.2 (by simp);have hlen:=List.length_pos_iff.2 hl;rw [show (a :: l).length - 1 = (l.length - 1) + 1 by simp; omega,nth_cons] at this;exact this
   rw [hde,ih (tl hx) (tl hy) hrs]
def sm (f:Nat->Nat):Nat->Nat
 | 0 => 0
 | k + 1 => sm f k + f k
def upd {α:Type} (f:Nat->α) (i:Nat) (x:α):Nat->α:=fun k => if k = i then x else f k
theorem upd_at {α:Type} (f:Nat->α) (i:Nat) (x:α):upd f i x i = x:=if_pos rfl
theorem upd_far {α:Type} (f:Nat->α) {i k:Nat} (x:α) (h:k≠i):upd f i x k = f k:=if_neg h
def pt (t:Nat) (c:Nat->Nat) (o:Nat->Int) (i:Int) (k:Nat):Nat:=(if (k:Int) = i then c k else 0) + (if o k = i then t - c k else 0)
def cu (t:Nat) (c:Nat->Nat) (o:Nat->Int) (i:Int) (k:Nat):Nat:=sm (pt t c o i) k
def gv (t:Nat) (c:Nat->Nat) (o:Nat->Nat) (i n:Nat):Nat:=sm (fun k => if o k = i then t - c k else 0) n
end
section
open Go.RowKit
theorem b1' (w:World) (o:Obj):Below w.heap.size w (w.alloc o):=(Below.refl _ _).alloc (Nat.le_refl _) _
def Rv (w:World) (B:Nat) (A:Option Addr) (vs:List Value):Prop :=
 vs≠[]->∃ b o,A = some ⟨b,o,none⟩/\b < B/\∀ k v,vs[k]? = some v->w.cell? ⟨b,o + k,none⟩ = some v
theorem Rv.at_ {w:World} {B:Nat} {A:Option Addr} {vs:List Value} {k:Nat} {v:Value} (h:Rv w B A vs) (hk:vs[k]? = some v) :
  ∃ b o,A = some ⟨b,o,none⟩/\b < B/\w.cell? ⟨b,o + k,none⟩ = some v:=by
 obtain ⟨b,o,h1,h2,h3⟩:=h (by rintro rfl; simp at hk);exact ⟨b,o,h1,h2,h3 k v hk⟩
theorem Rv.keep {w w':World} {B:Nat} {A:Option Addr} {vs:List Value} (h:Rv w B A vs) (hk:∀ p:Addr,p.block < B->w'.cell? p = w.cell? p):Rv w' B A vs:=by
 intro hx;obtain ⟨b,o,h1,h2,h3⟩:=h hx;exact ⟨b,o,h1,h2,fun k v hkl => (hk _ h2).trans (h3 k v hkl)⟩
theorem Rv.more {w:World} {B B':Nat} {A:Option Addr} {vs:List Value} (h:Rv w B A vs) (hB:B<=B'):Rv w B' A vs:=by
 intro hx;obtain ⟨b,o,h1,h2,h3⟩:=h hx;exact ⟨b,o,h1,by omega,h3⟩
theorem Rv.below {w w':World} {B C:Nat} {A:Option Addr} {vs:List Value} (h:Rv w B A vs) (hb:Below C w w') (hB:B<=C):Rv w' B A vs:=h.keep fun _ hp => hb.cell (by omega)
theorem Rv.step {w w':World} {A:Option Addr} {vs:List Value} (h:Rv w w.heap.size A vs) (hb:Below w.heap.size w w'):Rv w' w'.heap.size A vs:=(h.below hb (Nat.le_refl _)).more hb.size
theorem Rv.nil (w:World) (B:Nat) (A:Option Addr):Rv w B A []:=fun h => absurd rfl h
end
section
open Go.RowKit
set_option maxRecDepth 100000
theorem owns_litv (w:World) (base:Nat) (e:TypeId) (vs:List Value) (hb:base<=w.heap.size) (hl:vs.length<=maxLen) :
  (w.alloc (.cells vs.toArray e)).ownsRow base e 1 (.slice (some ⟨w.heap.size,0,none⟩) vs.length vs.length) vs.length vs :=
 ⟨by simp,.inr ⟨w.heap.size,vs.length,vs.toArray,rfl,hb,heap_alloc_new w _,Nat.le_refl _,hl,by simp,by simp⟩⟩
theorem made7 (w:World) (base:Nat) (hb:base<=w.heap.size) (e:TypeId):(w.alloc (.cells #[] e)).ownsRow base e 1 (.slice (some ⟨w.heap.size,0,none⟩) 0 0) 0 []:=owns_litv w base e [] hb (by simp)
theorem own7_keep {w w':World} {base:Nat} {e:TypeId} {v:Value} {n:Nat} {xs:List Value} (h:w.ownsRow base e 1 v n xs) (hb:Below w.heap.size w w'):w'.ownsRow base e 1 v n xs:=by
 have hlt:=h.lt;obtain ⟨h1,h2⟩:=h;refine ⟨h1,?_⟩;rcases h2 with h2 | ⟨g,cap,cur,rfl,hg,hh,r⟩
 · exact .inl h2
 · exact .inr ⟨g,cap,cur,rfl,hg,by rw [hb.block g (hlt g rfl).2]; exact hh,r⟩
theorem own7_ne {w:World} {base:Nat} {e t:TypeId} {v:Value} {n g:Nat} {xs:List Value} {cs:Array Value} (h:w.ownsRow base e 1 v n xs) (hb:Blk w g t cs) (hne:t≠e):v.ownBlock≠some g:=by
 intro e';rcases h.2 with ⟨rfl,_⟩ | ⟨g',cap,cur,rfl,_,hh,_⟩
 · cases e'
 ·
  injection e' with e'
  subst e';rw [show w.heap[g']? = _ from hb] at hh;cases hh;exact hne rfl
theorem own7_far {w w':World} {base:Nat} {e:TypeId} {v:Value} {n:Nat} {xs:List Value} {row:Option Nat} (h:w.ownsRow base e 1 v n xs) (hg:w.grownBy w' row) (hne:v.ownBlock≠row):w'.ownsRow base e 1 v n xs:=h.kept hg (.inr hne)
theorem own7_none {w w':World} {base:Nat} {e:TypeId} {v:Value} {n:Nat} {xs:List Value} (h:w.ownsRow base e 1 v n xs) (hg:w.grownBy w' none):w'.ownsRow base e 1 v n xs:=h.kept hg (by cases v.ownBlock <;> simp)
theorem own7_base {w:World} {base base':Nat} {e:TypeId} {v:Value} {n:Nat} {xs:List Value} (h:w.ownsRow base e 1 v n xs) (hb:base'<=base):w.ownsRow base' e 1 v n xs :=
 ⟨h.1,h.2.imp id (fun ⟨g,cap,cur,h1,h2,r⟩ => ⟨g,cap,cur,h1,Nat.le_trans hb h2,r⟩)⟩
section
variable {P:Program} (w:World)
theorem run_append_rv (base:Nat) (t ty e:TypeId) (z:Value) (bt:Nat) (ht:P.underlying t = some (.slice e)) (hinfo:(P.info? e).map (fun i => (i.zero,i.size,i.bytes)) = some (some z,1,bt)) (hz1:z.cells.size = 1) (hbt:bt<=1000)
  (v:Value) (n:Nat) (vs:List Value) (hown:w.ownsRow base e 1 v n vs) (B:Nat) (A:Option Addr) (ys:List Value) (c:Nat) (hr:Rv w B A ys) (h1:∀ u∈ys,u.oneCell' = true)
  (hb:n + ys.length<=100000000) (hbase:base<=w.heap.size) :
  ∃ v' w',(Builtin.append_ #[t,t] ty #[v,.slice A ys.length c]).run P w = .ok v' w'/\w'.ownsRow base e 1 v' (n + ys.length) (vs ++ ys)/\w.grownBy w' v.ownBlock /\
   (v'.ownBlock = v.ownBlock\/v'.ownBlock = some w.heap.size):=by
 obtain ⟨i,hi,hz,hsz,hby⟩:=info_parts hinfo
 cases A with
 | none =>
  obtain rfl:ys = []:=by
   rcases ys with _ | ⟨y,r⟩
   · rfl
   ·
    obtain ⟨_,_,h,_⟩:=hr (by simp);cases h
  refine ⟨v,w,?_,by simpa using hown,World.grownBy.refl w _,.inl rfl⟩;rcases hown.2 with ⟨rfl,rfl⟩ | ⟨g,cap,cur,rfl,_,_,hnc,_⟩
  · simp [Builtin.append_,run_underlying ht,sizeOf,typeInfo,hi,Builtin.lenOf,Builtin.firstCells]
  · simp [Builtin.append_,run_underlying ht,sizeOf,typeInfo,hi,Builtin.lenOf,Builtin.firstCells,hnc,storeCells]
 | some ad =>
  have hcells:∀ j u,ys[j]? = some u->w.cell? (ad.add j) = some u:=by
   intro j u hu;obtain ⟨b,o,h1,_,h2⟩:=hr.at_ hu;injection h1 with h1
   subst h1;rw [<- h2];unfold Addr.add;split
   · next h0 => subst h0; rfl
   · rfl
  have hmul:(n + ys.length) * bt<=100000000 * 1000:=Nat.mul_le_mul hb hbt
  obtain ⟨v',w',hrun,h2,h3,_,h5⟩:=run_append_own_at (P:=P) w base t ty e i z 1 bt ht hi hz hsz hby hz1 (by decide) v n vs hown ad ys.length c ys
   (by simp) hcells h1 (by unfold maxLen; omega) (by omega) hbase
  exact ⟨v',w',hrun,h2,h3,h5⟩
theorem wpList_append_rv {ops:Array Oper} {rest:List Oper} {o:Oper} {a:Act} {Q:Exit->Act->World->Prop} (hgd:o.guard = none) (s x:Operand) (t:TypeId)
  (ho:o.op = .call { callee:=.builtin .append,args:=#[s,x],argTypes:=#[t,t] })
  (base:Nat) (e:TypeId) (z:Value) (bt:Nat) (ht:P.underlying t = some (.slice e)) (hinfo:(P.info? e).map (fun i => (i.zero,i.size,i.bytes)) = some (some z,1,bt)) (hz1:z.cells.size = 1) (hbt:bt<=1000)
  (v:Value) (n:Nat) (vs:List Value) (hs:a.eval s = v) (hown:w.ownsRow base e 1 v n vs) (B:Nat) (A:Option Addr) (m:Nat) (ys:List Value) (c:Nat) (hm:ys.length = m)
  (hx:a.eval x = .slice A m c) (hr:Rv w B A ys) (h1:∀ u∈ys,u.oneCell' = true) (hb:n + m<=100000000) (hbase:base<=w.heap.size)
  (h:∀ A' c' w',n + m<=c'->Hid (w'.ownsRow base e 1 (.slice A' (n + m) c') (n + m) (vs ++ ys))->w.grownBy w' v.ownBlock->((Value.slice A' (n + m) c').ownBlock = v.ownBlock\/(Value.slice A' (n + m) c').ownBlock = some w.heap.size)->wpList P ops Q rest (a.put o.dst (.slice A' (n + m) c')) w') :
  wpList P ops Q (o :: rest) a w:=by
 subst hm;refine wpList_plain hgd fun K hK => ?_
 obtain ⟨v',w',hrun,h2,h3,h4⟩:=run_append_rv (P:=P) w base t o.type e z bt ht hinfo hz1 hbt v n vs hown B A ys c hr h1 hb hbase;unfold Oper.wp execOp;simp only [ho,resolve,invoke,builtin,Sem.run_bind,Sem.run_pure,Result.andThen_ok,List.map_toArray,List.map_cons,List.map_nil,hs,hx,hrun];obtain ⟨A',c',rfl,hc'⟩:=ownsRow_form w' h2
 exact hK _ _ (h A' c' w' hc' h2 h3 h4)
end
end
section
open Go.RowKit
theorem below_drewN {w:World} (n:Nat):Below w.heap.size w (w.drewN n):=⟨rfl,rfl,rfl,Nat.le_refl _,fun _ _ => rfl⟩
theorem and_mask32 (a:Nat) (ha:a < 18446744073709551616):bits .and .u64 (a:Int) 4294967295 = ((a % 4294967296:Nat):Int):=by
 have h:=bits_and_u64_nat a 4294967295 ha (by decide);have e:a &&& 4294967295 = a % 4294967296:=Nat.and_two_pow_sub_one_eq_mod a 32;rw [e] at h;exact h
theorem or_low32 (h l:Nat) (hh:h < 4294967296) (hl:l < 4294967296):bits .or .u64 (((h * 4294967296:Nat)):Int) (l:Int) = ((h * 4294967296 + l:Nat):Int):=by
 have h1:=bits_or_u64_nat (h * 4294967296) l (by omega) (by omega)
 have e:h * 4294967296 ||| l = h * 4294967296 + l:=by
  have:=Nat.two_pow_add_eq_or_of_lt (i:=32) (b:=l) hl h;rw [Nat.mul_comm] at this;exact this.symm
 rw [e] at h1;exact h1
theorem u64_in (n:Nat) (h:n < 18446744073709551616):IntKind.u64.wrap (n:Int) = (n:Int):=by rw [IntKind.wrap_u64]; omega
def fw (n:Nat):Nat:=if n < 18446744073709551616 then n else 0
def fb (n:Nat):Bool:=decide (n < 18446744073709551616)
theorem fw_in {n:Nat} (h:n < 18446744073709551616):fw n = n:=by simp [fw,h]
theorem fw_out {n:Nat} (h:18446744073709551616<=n):fw n = 0:=by simp [fw]; omega
theorem fb_in {n:Nat} (h:n < 18446744073709551616):fb n = true:=by simp [fb,h]
theorem fb_out {n:Nat} (h:18446744073709551616<=n):fb n = false:=by simp [fb]; omega
theorem qz {p:Prop} (h:p):Hid p:=Lib.hid h
theorem digit_in (A:Option Addr) (xs:List Nat) (n c i:Nat) (w:World) (hl:xs.length = n) (hr:Rd w w.heap.size A xs) (hi:i < n) (hn:n<=1000000) :
  Calls Tryz.prog 71 #[.agg #[.slice A n c],.int .i64 (i:Int)] w fun e w' => e = .returned (.int .i64 ((nth xs i:Nat):Int))/\Below w.heap.size w w':=by
 obtain ⟨b,o,rfl,hb,hci⟩:=hr.at_ (k:=i) (by omega);clear hr hl;go_enter Tryz.func71,Tryz.ntmps71;go_wp2;go_ret;exact ⟨rfl,(Below.refl _ _).alloc (Nat.le_refl _) _⟩
theorem digit_out (A:Option Addr) (xs:List Nat) (n c i:Nat) (w:World) (hl:xs.length = n) (hi:n<=i) :
  Calls Tryz.prog 71 #[.agg #[.slice A n c],.int .i64 (i:Int)] w fun e w' => e = .returned (.int .i64 0)/\Below w.heap.size w w':=by
 have hi':¬ i < n:=by omega
 clear hl;go_enter Tryz.func71,Tryz.ntmps71;go_wp2;go_ret;exact ⟨rfl,(Below.refl _ _).alloc (Nat.le_refl _) _⟩
theorem digit_any (A:Option Addr) (xs:List Nat) (n c i:Nat) (w:World) (hl:xs.length = n) (hr:Rd w w.heap.size A xs) (hn:n<=1000000) :
  Calls Tryz.prog 71 #[.agg #[.slice A n c],.int .i64 (i:Int)] w fun e w' => e = .returned (.int .i64 ((nth xs i:Nat):Int))/\Below w.heap.size w w':=by
 by_cases hi:i < n
 · exact digit_in A xs n c i w hl hr hi hn
 ·
  refine (digit_out A xs n c i w hl (by omega)).mono fun e w' h => ?_
  rw [nth_out (by omega)];exact h
theorem info_int:(Tryz.prog.info? 3).map (fun i => (i.zero,i.size,i.bytes)) = some (some (.int .i64 0),1,8):=by kernel_rfl
def Num (w:World) (L:Nat) (v:Value) (a:Nat):Prop:=∃ A xs n c,v = .agg #[.slice A n c]/\xs.length = n/\n<=c/\Rd w w.heap.size A xs/\Fr L A xs/\Can xs/\V xs = a
theorem setCell_size (w:World) (p:Addr) (u:Value):(w.setCell p u).heap.size = w.heap.size:=by simp [World.setCell]
theorem Num.old {w:World} {L:Nat} {v:Value} {a:Nat} (h:Num w L v a) {p:Addr} (hp:p.block < L) (u:Value):Num (w.setCell p u) L v a:=by
 obtain ⟨A,xs,n,c,h1,hl,h2,h3,h4,h5⟩:=h;exact ⟨A,xs,n,c,h1,hl,h2,by rw [setCell_size]; exact h3.old h4 hp u,h4,h5⟩
theorem Num.more {w:World} {L L':Nat} {v:Value} {a:Nat} (h:Num w L v a) (hL:L'<=L):Num w L' v a:=by
 obtain ⟨A,xs,n,c,h1,hl,h2,h3,h4,h5⟩:=h;exact ⟨A,xs,n,c,h1,hl,h2,h3,h4.more hL,h5⟩
theorem Num.below {w w':World} {L:Nat} {v:Value} {a:Nat} (h:Num w L v a) (hb:Below w.heap.size w w'):Num w' L v a:=by
 obtain ⟨A,xs,n,c,h1,hl,h2,h3,h4,h5⟩:=h;exact ⟨A,xs,n,c,h1,hl,h2,(h3.below hb (Nat.le_refl _)).more hb.size,h4,h5⟩
theorem Num.form {w:World} {L:Nat} {v:Value} {a:Nat} (h:Num w L v a) {k:Nat} (hk:a < 65536 ^ k) :
  ∃ A xs n c,v = .agg #[.slice A n c]/\Hid (xs.length = n)/\n<=c/\Rd w w.heap.size A xs/\Can xs/\Hid (V xs = a)/\n<=k:=by
 obtain ⟨A,xs,n,c,h1,hl,h2,h3,h4,h5,h6⟩:=h;exact ⟨A,xs,n,c,h1,hl,h2,h3,h5,h6,by have:=h5.len (k:=k) (by omega); omega⟩
theorem Num.shape {w:World} {L:Nat} {v:Value} {a:Nat} (h:Num w L v a):∃ A n c,v = .agg #[.slice A n c]:=by
 obtain ⟨A,xs,n,c,h1,_⟩:=h;exact ⟨A,n,c,h1⟩
def RetNum (w:World) (a:Nat) (e:Ending) (w':World):Prop:=∃ v,e = .returned v/\Num w' w.heap.size v a/\Below w.heap.size w w'
theorem cut_done {w w1:World} {A':Option Addr} {c' n' n:Nat} {xs:List Nat} {u:Value} (hl:([] ++ xs.take n).length = n') (hc:n'<=c')
  (hown:w1.ownsRow (w.heap.size + 1) 3 1 (.slice A' n' c') n' (ints ([] ++ xs.take n)))
  (hg:((w.alloc (.cells #[.slice none 0 0] 33)).alloc (.cells #[] 3)).grownBy w1 (Value.slice (some ⟨w.heap.size + 1,0,none⟩) 0 0).ownBlock)
  (hcan:Can (xs.take n)) (hv:V (xs.take n) = V xs) :
  RetNum w (V xs) (.returned (.agg #[.slice A' n' c'])) (w1.setCell ⟨w.heap.size,0,none⟩ u):=by
 rw [List.nil_append] at hown hl;refine ⟨_,rfl,⟨A',xs.take n,n',c',rfl,hl,hc,?_,?_,hcan,hv⟩,?_⟩
 · exact Rd.of_own_set hown (by simp) _
 · exact (Fr.of_own hown).more (by omega)
 ·
  refine Below.setCell ?_ (by simp) _;exact (((Below.refl _ _).alloc (Nat.le_refl _) _).alloc (by simp) _).grown hg (by simp; omega) (by intro k hk; simp [Value.ownBlock] at hk; omega)
theorem cut_blk {w w1:World} (hg:((w.alloc (.cells #[.slice none 0 0] 33)).alloc (.cells #[] 3)).grownBy w1 (Value.slice (some ⟨w.heap.size + 1,0,none⟩) 0 0).ownBlock) :
  w1.cell? ⟨w.heap.size,0,none⟩ = some (.slice none 0 0)/\w1.frozen? ⟨w.heap.size,0,none⟩ = false:=by
 have h:=((Blk.new w 33 #[.slice none 0 0]).alloc (.cells #[] 3)).grown hg (by simp [Value.ownBlock]);exact ⟨h.cell 0,h.frozen 0⟩
theorem cut_any (A:Option Addr) (xs:List Nat) (l c:Nat) (w:World) (hll:xs.length = l) (hr:Rd w w.heap.size A xs) (hd:Dig xs) (hn:l<=1000000) (hc:l<=c) :
  Calls Tryz.prog 72 #[.slice A l c] w (RetNum w (V xs)):=by
 have HLL:=qz hll;clear hll;go_enter Tryz.func72,Tryz.ntmps72;go_wp2
 go_loop [3] (fun v => ∃ n:Nat,n<=l/\v = .int .i64 n/\∀ j,n<=j->nth xs j = 0) (fun v => (intOf v).toNat)
 case atStart => exact ⟨_,Nat.le_refl _,rfl,fun j hj => nth_out (by have:=HLL.out; omega)⟩
 case round =>
  obtain ⟨n,hnl,rfl,hz⟩:=hrel;have HZ:=qz hz;clear hz;have HL:Hid ((xs.take n).length = n):=qz (by have:=HLL.out; simp; omega);have hr2:=(hr.alloc (Nat.le_refl _) (.cells #[.slice none 0 0] 33)).alloc (by simp) (.cells #[] 3);have HR:=qz (hr2.take n)
  have HO:Hid (((w.alloc (.cells #[.slice none 0 0] 33)).alloc (.cells #[] 3)).ownsRow (w.heap.size + 1) 3 1 (.slice (some ⟨w.heap.size + 1,0,none⟩) 0 0) ([]:List Nat).length (ints [])) :=
   qz (by have:=World.ownsRow_made (base:=w.heap.size + 1) (e:=3) (size:=1) (w.alloc (.cells #[.slice none 0 0] 33)) #[] 0 (by simp) (by decide) rfl; simpa [ints] using this)
  clear hr2;have HV:Hid (V (xs.take n) = V xs):=qz (V_zeros xs n HZ.out);by_cases hpos:0 < n
  ·
   obtain ⟨m,rfl⟩:∃ m,n = m + 1:=⟨n - 1,by omega⟩
   obtain ⟨b,o,hA,hb,hcm⟩:=hr.at_ (k:=m) (by have:=HLL.out; omega);subst hA;by_cases h0:nth xs m = 0
   ·
    have h0':(((nth xs m:Nat):Int) == 0) = true:=by simp [h0]
    have H0:=qz h0;clear h0;go_wp2
    go_round
    case rel =>
     refine ⟨m,by omega,by go_num,fun j hj => ?_⟩;rcases Nat.lt_or_ge m j with h | h
     · exact HZ.out j h
     · rw [show j = m by omega]; exact H0.out
    case measure => simp [intOf]
   ·
    have h0':(((nth xs m:Nat):Int) == 0) = false:=by simp [h0]
    have HC:Hid (Can (xs.take (m + 1))):=qz (Can.of_take hd (by have:=HLL.out; omega) (fun _ => by simpa using h0));clear h0 HZ
    go_wp2_with (at_builtin; go_loud (refine wpList_append_ints _ rfl (.tmp 18) (.tmp 21) 26 rfl (w.heap.size + 1) 3 Tryz.underlying26 info_int (.slice (some ⟨w.heap.size + 1,0,none⟩) 0 0) [] rfl HO.out w.heap.size (some ⟨b,o,none⟩) (m + 1) (xs.take (m + 1)) _ HL.out rfl HR.out (by have:=HLL.out; simp; omega) (by simp) ?_); intro A' n' c' w1 hl1 hc1 hown1 hg1; obtain ⟨hcell,hfro⟩:=cut_blk hg1)
    exact bodyPost_ret (v:=.agg #[.slice A' n' c']) (by simp [results,Tryz.results72,go_sem,hcell,hfro]) rfl (cut_done hl1.out hc1 hown1.out hg1 HC.out HV.out)
  ·
   obtain rfl:n = 0:=by omega
   have HC:Hid (Can (xs.take 0)):=qz Can.nil;clear HZ
   go_wp2_with (at_builtin; go_loud (refine wpList_append_ints _ rfl (.tmp 18) (.tmp 21) 26 rfl (w.heap.size + 1) 3 Tryz.underlying26 info_int (.slice (some ⟨w.heap.size + 1,0,none⟩) 0 0) [] rfl HO.out w.heap.size A 0 (xs.take 0) _ HL.out rfl HR.out (by simp) (by simp) ?_); intro A' n' c' w1 hl1 hc1 hown1 hg1; obtain ⟨hcell,hfro⟩:=cut_blk hg1)
   exact bodyPost_ret (v:=.agg #[.slice A' n' c']) (by simp [results,Tryz.results72,go_sem,hcell,hfro]) rfl (cut_done hl1.out hc1 hown1.out hg1 HC.out HV.out)
theorem half_step {q k:Nat} (h:q < 2 ^ (64 - k)) (h0:0 < q):k < 64/\q / 65536 < 2 ^ (64 - (k + 1)):=by
 have hk:k < 64:=by
  rcases Nat.lt_or_ge k 64 with h1 | h1
  · exact h1
  · rw [show 64 - k = 0 by omega] at h; simp at h; omega
 refine ⟨hk,?_⟩;rw [show 64 - k = (64 - (k + 1)) + 1 by omega,Nat.pow_succ] at h;omega
def OfRel (n:Nat) (w:World) (q:Nat) (v:Value) (wr:World):Prop :=
 ∃ ds A l c,v = .slice A l c/\ds.length = l/\l<=c/\wr.ownsRow (w.heap.size + 1) 3 1 v l (ints ds)/\Dig ds/\V ds + 65536 ^ l * q = n/\q < 2 ^ (64 - l)/\(q = 0->Can ds) /\
  l<=64/\Below w.heap.size w wr/\Blk wr w.heap.size 33 #[.slice none 0 0]
theorem of_step {n:Nat} {w:World} {q:Nat} {wr:World} {A:Option Addr} {c l:Nat} {ds:List Nat} (hl:ds.length = l) (hv:V ds + 65536 ^ l * q = n) (hq:q < 2 ^ (64 - l)) (hd:Dig ds) (hb:Below w.heap.size w wr)
  (hblk:Blk wr w.heap.size 33 #[.slice none 0 0]) (h0:0 < q) {A':Option Addr} {n' c':Nat} {w1:World} (hl':(ds ++ [q % 65536]).length = n') (hc:n'<=c')
  (hown:wr.ownsRow (w.heap.size + 1) 3 1 (.slice A l c) l (ints ds))
  (hown1:w1.ownsRow (w.heap.size + 1) 3 1 (.slice A' n' c') n' (ints (ds ++ [q % 65536])))
  (hg:(wr.alloc (.cells #[.int .i64 ((q % 65536:Nat):Int)] 3)).grownBy w1 (Value.slice A l c).ownBlock) :
  OfRel n w (q / 65536) (.slice A' n' c') w1:=by
 subst hl;have hs:=half_step hq h0;have hrow:∀ k,(Value.slice A ds.length c).ownBlock = some k->w.heap.size + 1<=k:=fun k hk => (hown.lt k hk).1
 have hn':ds.length + 1 = n':=by rw [<- hl']; simp
 subst hn';refine ⟨ds ++ [q % 65536],A',_,c',rfl,hl',hc,hown1,hd.snoc (by omega),?_,hs.2,fun hz => Can.snoc hd (by omega) (by omega),by omega,?_,?_⟩
 ·
  rw [V_snoc,<- hv,Nat.pow_succ];have:=Nat.div_add_mod q 65536;generalize q / 65536 = a at *
  generalize q % 65536 = b at *
  subst this
  grind
 · exact (hb.alloc hb.size _).grown hg (by have:=hb.size; simp; omega) (fun k hk => by have:=hrow k hk; omega)
 · exact (hblk.alloc _).grown hg (fun e => by have:=hrow _ e.symm; omega)
theorem of_any (n:Nat) (w:World) (hn:n < 18446744073709551616) :
  Calls Tryz.prog 33 #[.int .u64 (n:Int)] w (RetNum w n):=by
 have hN:n < 2 ^ (64 - ([]:List Nat).length):=by simpa using hn
 have HN:=qz hN;clear hN;go_enter Tryz.func33,Tryz.ntmps33;go_wp2;go_loopw [0,3] (fun p v wr => ∃ q:Nat,p = .int .u64 (q:Int)/\q < 18446744073709551616/\OfRel n w q v wr) (fun p _ _ => (intOf p).toNat)
 case atStart =>
  exact ⟨n,rfl,hn,[],none,0,0,rfl,rfl,Nat.le_refl _,World.ownsRow_nil _ _ _ _,Dig.nil,by simp [V],HN.out,fun _ => Can.nil,by simp,(Below.refl _ _).alloc (Nat.le_refl _) _,Blk.new _ _ _⟩
 case round =>
  obtain ⟨q,rfl,hq,ds,A,l,c,rfl,hll,hc,hown,hd,hv,hql,hcan,hl,hb,hblk⟩:=hrel;have HLL:=qz hll;have HV:=qz hv;have HQ:=qz hql;have HC:=qz hcan;have HO:=qz hown;have hc0:=hblk.cell 0;have hf0:=hblk.frozen 0;clear hv hql hcan hown hll;by_cases h0:0 < q
  ·
   go_wp2_with (at_builtin; go_loud (refine wpList_append_ints _ rfl (.tmp 6) (.tmp 10) 26 rfl (w.heap.size + 1) 3 Tryz.underlying26 info_int (.slice A l c) ds rfl (by rw [HLL.out]; exact HO.out.alloc _) (wr.heap.size + 1) (some ⟨wr.heap.size,0,none⟩) 1 [q % 65536] _ rfl rfl (Rd.one _ _ _) (by have:=HLL.out; simp; omega) (by have:=hb.size; simp; omega) ?_); intro A' n' c' w1 hl1 hc1 hown1 hg1)
   go_roundw
   case rel => exact ⟨q / 65536,by go_num,by omega,of_step HLL.out HV.out HQ.out hd hb hblk h0 hl1.out hc1 HO.out hown1.out hg1⟩
   case measure => simp [intOf]; omega
  ·
   obtain rfl:q = 0:=by omega
   have HC0:Hid (Can ds):=qz (HC.out rfl);clear HC;go_wp2;refine bodyPost_ret (v:=.agg #[.slice A l c]) (by simp [results,Tryz.results33,go_sem,hc0,hf0]) rfl ?_;exact ⟨_,rfl,⟨A,ds,l,c,rfl,HLL.out,hc,Rd.of_own_set HO.out (by simp) _,(Fr.of_own HO.out).more (by omega),HC0.out,by have:=HV.out; simpa using this⟩,hb.setCell (by simp) _⟩
end
end Go.Proofs.YtkdmnlihpebbkaaGreat
