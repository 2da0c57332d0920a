import Derived.Test.YtkdmnlihpebbkaaGreatCT3
import Derived.Laws.StructEq
import Derived.Laws.CopyOwn
set_option linter.all false
set_option maxHeartbeats 4000000
namespace Go.Proofs.YtkdmnlihpebbkaaGreat
section
open Go.RowKit
set_option maxRecDepth 100000
theorem setCells13 (b:Nat):∀ (vs:List Value) (o:Nat) (w:World),(w.setCells b o vs).os = w.os/\(w.setCells b o vs).tape = w.tape/\(w.setCells b o vs).output = w.output/\(w.setCells b o vs).heap.size = w.heap.size/\∀ k,k≠b->(w.setCells b o vs).heap[k]? = w.heap[k]?
 | [],_,_ => ⟨rfl,rfl,rfl,rfl,fun _ _ => rfl⟩
 | v :: r,o,w => by
  obtain ⟨h1,h2,h3,h4,h5⟩:=setCells13 b r (o + 1) (w.setCell ⟨b,o,none⟩ v);rw [World.setCells];refine ⟨h1.trans ?_,h2.trans ?_,h3.trans ?_,h4.trans (by simp [World.setCell]),fun k hk => (h5 k hk).trans (Below.heap_setCell w ⟨b,o,none⟩ v k hk)⟩
  all_goals rfl
theorem blk13_setCells {t:TypeId} {b:Nat}:∀ (vs:List Value) (o:Nat) (w:World) (cs:Array Value),Blk w b t cs->o + vs.length<=cs.size->∃ cs':Array Value,Blk (w.setCells b o vs) b t cs'/\cs'.size = cs.size/\(∀ k,k < o->cs'[k]? = cs[k]?)/\(∀ k,k < vs.length->cs'[o + k]? = vs[k]?)/\(∀ k,o + vs.length<=k->cs'[k]? = cs[k]?)
 | [],o,w,cs,h,_ => ⟨cs,h,rfl,fun _ _ => rfl,fun k hk => by simp at hk,fun _ _ => rfl⟩
 | v :: r,o,w,cs,h,hl => by
  simp only [List.length_cons] at hl;obtain ⟨cs',h1,h2,h3,h4,h5⟩:=blk13_setCells r (o + 1) (w.setCell ⟨b,o,none⟩ v) _ (h.set_ o v) (by simp; omega);refine ⟨cs',h1,by simpa using h2,fun k hk => ?_,fun k hk => ?_,fun k hk => ?_⟩
  · rw [h3 k (by omega),Array.getElem?_setIfInBounds_ne (by omega)]
  ·
   cases k with
   | zero =>
    rw [Nat.add_zero,h3 o (by omega),Array.getElem?_setIfInBounds_self_of_lt (by omega)]
    rfl
   | succ k =>
    rw [show o + (k + 1) = o + 1 + k by omega,h4 k (by simp at hk; omega)];rfl
  ·
   simp only [List.length_cons] at hk;rw [h5 k (by omega),Array.getElem?_setIfInBounds_ne (by omega)]
theorem own13_of {w:World} {base g n cap:Nat} {e:TypeId} {cur:Array Value} {vs:List Value} (h:Blk w g e cur) (hb:base<=g) (hn:n<=cap) (hc:cap<=maxLen) (hs:cur.size = cap) (hl:vs.length = n) (hv:∀ k,k < n->cur[k]? = vs[k]?) :
  w.ownsRow base e 1 (.slice (some ⟨g,0,none⟩) n cap) n vs:=by
 refine ⟨by omega,.inr ⟨g,cap,cur,rfl,hb,h,hn,hc,by omega,?_⟩⟩;rw [Nat.mul_one];apply List.ext_getElem?;intro k;rw [List.getElem?_take];split
 · next hk => rw [Array.getElem?_toList]; exact hv k hk
 · next hk => rw [List.getElem?_eq_none (by omega)]
def ins13 (xs:List Nat) (p x:Nat):List Nat:=xs.take p ++ x :: xs.drop p
theorem ins13_len (xs:List Nat) {p:Nat} (x:Nat) (hp:p<=xs.length):(ins13 xs p x).length = xs.length + 1:=by
 simp [ins13];omega
theorem ins13_low {xs:List Nat} {p x k:Nat} (hp:p<=xs.length) (hk:k < p):(ints (ins13 xs p x))[k]? = (ints xs)[k]?:=by
 simp only [ins13,ints,List.map_append,List.map_cons,List.map_take];rw [List.getElem?_append_left (by simp; omega),List.getElem?_take_of_lt hk]
theorem ins13_at {xs:List Nat} {p x:Nat} (hp:p<=xs.length):(ints (ins13 xs p x))[p]? = some (.int .i64 (x:Int)):=by
 simp only [ins13,ints,List.map_append,List.map_cons,List.map_take];rw [List.getElem?_append_right (by simp; omega)];simp [show p - min p xs.length = 0 by omega]
theorem ins13_high {xs:List Nat} {p x k:Nat} (hp:p<=xs.length) (hk:p<=k):(ints (ins13 xs p x))[k + 1]? = (ints xs)[k]?:=by
 simp only [ins13,ints,List.map_append,List.map_cons,List.map_take,List.map_drop];rw [List.getElem?_append_right (by simp; omega)];rw [show k + 1 - (List.take p (List.map (fun (d:Nat) => Value.int .i64 (d:Int)) xs)).length = (k - p) + 1 by simp; omega];simp [show p + (k - p) = k by omega]
def In13s (w:World) (base:Nat) (v:Value) (ys:List Nat) (e:Ending) (w':World):Prop :=
 ∃ A' c',e = .returned (.slice A' ys.length c')/\w'.ownsRow base 3 1 (.slice A' ys.length c') ys.length (ints ys)/\w.grownBy w' v.ownBlock/\∀ r,(Value.slice A' ys.length c').ownBlock = some r->v.ownBlock = some r\/w.heap.size<=r
theorem insert13_any {base:Nat} {A:Option Addr} {n c p x vb:Nat} {xs:List Nat} (w:World) (hl:xs.length = n) (ho:w.ownsRow base 3 1 (.slice A n c) n (ints xs)) (hp:p<=n) (hv:Blk w vb 3 #[.int .i64 (x:Int)])
  (hne:(Value.slice A n c).ownBlock≠some vb) (hn:n<=1000000) (hbase:base<=w.heap.size) :
  Calls Tryz.prog 150 #[.slice A n c,.int .i64 (p:Int),.slice (some ⟨vb,0,none⟩) 1 1] w (In13s w base (.slice A n c) (ins13 xs p x)):=by
 have hyl:(ins13 xs p x).length = n + 1:=by rw [ins13_len _ _ (by omega),hl]
 have hvs:∀ j u,[Value.int .i64 (x:Int)][j]? = some u->w.cell? ⟨vb,0 + j,none⟩ = some u:=by
  intro j u hj;rw [Nat.zero_add,hv.cell];simpa using hj
 have h1v:∀ u∈[Value.int .i64 (x:Int)],u.oneCell' = true:=by
  intro u hu;rw [List.mem_singleton] at hu;subst hu;rfl
 have h1c:=ints_one xs;have hcl:(ints xs).length = n:=by rw [ints_length,hl]
 unfold In13s;rw [hyl];by_cases hroom:n + 1<=c
 ·
  -- there is room: the row is not nil
  rcases ho.2 with ⟨h0,_⟩ | ⟨b,cap,cur,hvv,hbb,hh,hnc,hcm,hcs,htk⟩
  ·
   injection h0 with _ _ h2
   omega
  injection hvv with hA _ hcc
  subst hA hcc;rw [Nat.mul_one] at hcs htk;have hbk:Blk w b 3 cur:=hh
  have hcur:∀ j,j < n->cur[j]? = (ints xs)[j]?:=fun j hj => by
   rw [<- htk,List.getElem?_take_of_lt hj,Array.getElem?_toList]
  have hvb:vb≠b:=fun e => hne (by rw [e]; rfl)
  have hc63:c<=9223372036854775807:=by unfold maxLen at hcm; omega
  have hgrow:∀ (W:World),W.os = w.os->W.tape = w.tape->W.output = w.output->W.heap.size = w.heap.size->(∀ k,k≠b->W.heap[k]? = w.heap[k]?)->w.grownBy W (Value.slice (some ⟨b,0,none⟩) n c).ownBlock:=fun W e1 e2 e3 e4 e5 =>
   ⟨e1,e2,e3,by omega,fun k _ hk => e5 k (fun e => hk (by rw [e]; rfl))⟩
  by_cases hend:p = n
  ·
   subst hend;refine (Any2.slices_Insert_int_end_room Tryz.laysNm221 b 0 p c vb 0 1 1 [.int .i64 (x:Int)] w (by omega) hroom hc63 rfl (fun j hj => ?_) (fun j hj => hbk.frozen _) hvs h1v).mono ?_
   ·
    rw [hbk.cell,Array.getElem?_eq_getElem (by omega)];rfl
   ·
    rintro e w' ⟨rfl,rfl⟩;obtain ⟨cs',q1,q2,q3,q4,q5⟩:=blk13_setCells (t:=3) [.int .i64 (x:Int)] (0 + p) w cur hbk (by simp; omega);obtain ⟨e1,e2,e3,e4,e5⟩:=setCells13 b [.int .i64 (x:Int)] (0 + p) w;refine ⟨_,_,rfl,own13_of q1 hbb hroom hcm (by omega) (by rw [ints_length,hyl]) (fun k hk => ?_),hgrow _ e1 e2 e3 e4 e5,fun r hr => .inl hr⟩
    rcases (show k < p\/k = p by omega) with hk | rfl
    · rw [q3 k (by omega),hcur k hk,ins13_low (by omega) hk]
    ·
     rw [ins13_at (by omega)];simpa using q4 0 (by simp)
  ·
   have hpn:p < n:=by omega
   refine (Any2.slices_Insert_int_shift Tryz.laysNm221 b 0 n c p vb 0 1 1 (ints xs) [.int .i64 (x:Int)] w hpn (by omega) hroom hc63 hvb hcl rfl (fun j u hj => ?_) (fun j hj => ?_) (fun j hj => hbk.frozen _) hvs h1c h1v 3 3 1 cur.size ?_ ?_ (by omega) (hv.frozen _) (hv.frozen _)).mono ?_
   ·
    have hjn:j < n:=by
     have:=(List.getElem?_eq_some_iff.1 hj).1;omega
    rw [Nat.zero_add,hbk.cell,hcur j hjn,hj]
   ·
    rw [Nat.zero_add,hbk.cell,Array.getElem?_eq_getElem (by omega)];rfl
   ·
    unfold World.shape?;rw [show w.heap[vb]? = _ from hv];rfl
   ·
    unfold World.shape?;rw [show w.heap[b]? = _ from hbk]
   ·
    rintro e w' ⟨rfl,rfl⟩;have hdl:((ints xs).drop p).length = n - p:=by rw [List.length_drop,hcl]
    obtain ⟨cs1,q1,q2,q3,q4,q5⟩:=blk13_setCells (t:=3) ((ints xs).drop p) (0 + (p + 1)) w.drew cur hbk (by omega);obtain ⟨e1,e2,e3,e4,e5⟩:=setCells13 b ((ints xs).drop p) (0 + (p + 1)) w.drew;obtain ⟨cs2,r1,r2,r3,r4,r5⟩:=blk13_setCells (t:=3) [.int .i64 (x:Int)] (0 + p) _ cs1 q1 (by simp; omega)
    obtain ⟨f1,f2,f3,f4,f5⟩:=setCells13 b [.int .i64 (x:Int)] (0 + p) (w.drew.setCells b (0 + (p + 1)) ((ints xs).drop p));refine ⟨_,_,rfl,own13_of r1 hbb hroom hcm (by omega) (by rw [ints_length,hyl]) (fun k hk => ?_),hgrow _ (f1.trans e1) (f2.trans e2) (f3.trans e3) (f4.trans e4) (fun k hk => (f5 k hk).trans (e5 k hk)),fun r hr => .inl hr⟩
    rcases (show k < p\/k = p\/p < k by omega) with hkp | rfl | hkp
    · rw [r3 k (by omega),q3 k (by omega),hcur k (by omega),ins13_low (by omega) hkp]
    ·
     rw [ins13_at (by omega)];simpa using r4 0 (by simp)
    ·
     obtain ⟨j,rfl⟩:∃ j,k = p + 1 + j:=⟨k - p - 1,by omega⟩
     rw [r5 _ (by simp <;> omega),show p + 1 + j = 0 + (p + 1) + j by omega,q4 j (by omega),show 0 + (p + 1) + j = (p + j) + 1 by omega,ins13_high (by omega) (by omega),List.getElem?_drop]
 ·
  -- no room: a new row
  have hnc:n<=c:=by
   rcases ho.2 with ⟨h0,_⟩ | ⟨b,cap,cur,hvv,_,_,hnc,_⟩
   ·
    injection h0 with _ h1 h2
    omega
   ·
    injection hvv with _ _ hcc
    omega
  have hcap:n + 1<=grownCap w (n + 1) c 3:=grownCap_ge _ _ _ _;have hcapm:grownCap w (n + 1) c 3<=maxLen:=grownCap_le_maxLen _ _ _ _ (by unfold maxLen; omega);by_cases hend:p = n
  ·
   subst hend;refine (Any2.slices_Insert_int_end_grow Tryz.laysNm221 A p c vb 0 1 1 (ints xs) [.int .i64 (x:Int)] w (by omega) hnc (by omega) (by omega) hcl rfl (fun h => ?_) (fun a ha j u hj => ?_) hvs h1v).mono ?_
   ·
    rcases ho.2 with ⟨h0,h1⟩ | ⟨b,cap,cur,hvv,_⟩
    · exact h1
    ·
     injection hvv with hA
     rw [h] at hA;cases hA
   ·
    rcases ho.2 with ⟨h0,h1⟩ | ⟨b,cap,cur,hvv,_⟩
    ·
     injection h0 with hA
     rw [ha] at hA;cases hA
    ·
     injection hvv with hA
     rw [ha] at hA;injection hA with hA
     subst hA;exact ho.cells (g:=b) (by rw [ha]; rfl) j u hj
   ·
    rintro e w' ⟨rfl,rfl⟩;refine ⟨_,_,rfl,own13_of (Blk.new w.drew _ _) hbase hcap hcapm ?_ (by rw [ints_length,hyl]) (fun k hk => ?_),⟨rfl,rfl,rfl,by simp,fun k hk _ => Below.heap_alloc w.drew _ k hk⟩,fun r hr => .inr (by cases hr; exact Nat.le_refl _)⟩
    ·
     show ((ints xs ++ [Value.int .i64 (x:Int)]).toArray ++ Builtin.zeroCells (Value.int .i64 0).cells (grownCap w (p + 1) c 3 - (p + 1))).size = grownCap w (p + 1) c 3;simp [size_zeroCells,hcl,Value.cells];omega
    ·
     rw [Array.getElem?_append_left (by simp; omega)];rcases (show k < p\/k = p by omega) with hk2 | rfl
     ·
      rw [ins13_low (by omega) hk2];simp only [List.getElem?_toArray];rw [List.getElem?_append_left (by omega)]
     ·
      rw [ins13_at (by omega)];simp only [List.getElem?_toArray];rw [List.getElem?_append_right (by omega),hcl,Nat.sub_self];rfl
  ·
   have hpn:p < n:=by omega
   rcases ho.2 with ⟨h0,h1⟩ | ⟨b,cap,cur,hvv,hbb,hh,_,hcm,hcs,htk⟩
   · omega
   injection hvv with hA _ hcc
   subst hA hcc;refine (Any2.slices_Insert_int_grow Tryz.laysNm221 b 0 n c p vb 0 1 1 (ints xs) [.int .i64 (x:Int)] w hpn (by omega) hnc (by omega) (by omega) hcl rfl (fun j u hj => ?_) hvs h1c h1v).mono ?_
   ·
    have:=ho.cells (g:=b) rfl j u hj;rw [Go.WideShapes.add_plain] at this;exact this
   ·
    rintro e w' ⟨rfl,hw⟩;have hdl:((ints xs).drop p).length = n - p:=by rw [List.length_drop,hcl]
    generalize hcu:((ints xs).take p).toArray ++ Builtin.zeroCells (Value.int .i64 0).cells (n + 1 - p) ++ Builtin.zeroCells (Value.int .i64 0).cells (grownCap w (n + 1) c 3 - (n + 1)) = cu
    have hcus:cu.size = grownCap w (n + 1) c 3:=by
     rw [<- hcu];simp [size_zeroCells,hcl,Value.cells];omega
    have hculow:∀ k,k < p->cu[k]? = (ints xs)[k]?:=fun k hk => by
     rw [<- hcu,Array.getElem?_append_left (by simp [hcl]; omega),Array.getElem?_append_left (by simp [hcl]; omega),List.getElem?_toArray,List.getElem?_take_of_lt hk]
    obtain rfl:w' = (((w.alloc (.cells cu 3)).drew.setCells w.heap.size p [.int .i64 (x:Int)]).drew).setCells w.heap.size (p + 1) ((ints xs).drop p):=by
     rw [hw,<- hcu];rfl
    clear hw;have hb0:Blk (w.alloc (.cells cu 3)).drew w.heap.size 3 cu:=Blk.new w _ _;obtain ⟨cs1,q1,q2,q3,q4,q5⟩:=blk13_setCells (t:=3) [.int .i64 (x:Int)] p _ cu hb0 (by simp; omega);obtain ⟨e1,e2,e3,e4,e5⟩:=setCells13 w.heap.size [.int .i64 (x:Int)] p (w.alloc (.cells cu 3)).drew
    have q1':Blk ((w.alloc (.cells cu 3)).drew.setCells w.heap.size p [.int .i64 (x:Int)]).drew w.heap.size 3 cs1:=q1;obtain ⟨cs2,r1,r2,r3,r4,r5⟩:=blk13_setCells (t:=3) ((ints xs).drop p) (p + 1) _ cs1 q1' (by omega)
    obtain ⟨f1,f2,f3,f4,f5⟩:=setCells13 w.heap.size ((ints xs).drop p) (p + 1) ((w.alloc (.cells cu 3)).drew.setCells w.heap.size p [.int .i64 (x:Int)]).drew
    refine ⟨_,_,rfl,own13_of r1 hbase hcap hcapm (by show cs2.size = grownCap w (n + 1) c 3; omega) (by rw [ints_length,hyl]) (fun k hk => ?_),⟨f1.trans e1,f2.trans e2,f3.trans e3,?_,fun k hk _ => ?_⟩,fun r hr => .inr (by cases hr; exact Nat.le_refl _)⟩
    ·
     rcases (show k < p\/k = p\/p < k by omega) with hkp | rfl | hkp
     · rw [r3 k (by omega),q3 k (by omega),hculow k hkp,ins13_low (by omega) hkp]
     ·
      rw [r3 k (by omega),ins13_at (by omega)];simpa using q4 0 (by simp)
     ·
      obtain ⟨j,rfl⟩:∃ j,k = p + 1 + j:=⟨k - p - 1,by omega⟩
      rw [r4 j (by omega),show p + 1 + j = (p + j) + 1 by omega,ins13_high (by omega) (by omega),List.getElem?_drop]
    ·
     have h1:((w.alloc (.cells cu 3)).drew.setCells w.heap.size p [.int .i64 (x:Int)]).drew.heap.size = w.heap.size + 1:=by
      rw [show ((w.alloc (.cells cu 3)).drew.setCells w.heap.size p [.int .i64 (x:Int)]).drew.heap.size = ((w.alloc (.cells cu 3)).drew.setCells w.heap.size p [.int .i64 (x:Int)]).heap.size from rfl,e4];simp [World.drew]
     omega
    · exact (f5 k (by omega)).trans ((e5 k (by omega)).trans (Below.heap_alloc w _ k hk))
theorem within14 (i n:Int) (b:Bool) (hb:b = true↔0<=i/\i < n) (w:World) :
  Calls Tryz.prog 81 #[.int .i64 i,.int .i64 n] w fun e w' => e = .returned (.bool b)/\w' = w:=by
 by_cases h0:0<=i
 ·
  by_cases h1:i < n
  ·
   obtain rfl:b = true:=hb.2 ⟨h0,h1⟩;clear hb;go_enter Tryz.func81,Tryz.ntmps81;go_wp2_with fail;go_ret;exact ⟨rfl,rfl⟩
  ·
   obtain rfl:b = false:=by
    cases b with
    | false => rfl
    | true => exact absurd (hb.1 rfl).2 h1
   clear hb;go_enter Tryz.func81,Tryz.ntmps81;go_wp2_with fail;go_ret;exact ⟨rfl,rfl⟩
 ·
  obtain rfl:b = false:=by
   cases b with
   | false => rfl
   | true => exact absurd (hb.1 rfl).1 h0
  clear hb;go_enter Tryz.func81,Tryz.ntmps81;go_wp2_with fail;go_ret;exact ⟨rfl,rfl⟩
theorem us14_nat {α:Type} [Inhabited α] (us:α->Bool) (xs:List α) (k:Nat):us14 us xs (k:Int) = us (gt14 xs k):=by
 simp [us14]
theorem us14_neg {α:Type} [Inhabited α] (us:α->Bool) (xs:List α) {i:Int} (h:i < 0):us14 us xs i = false:=by
 have:¬ 0<=i:=by omega
 simp [us14,this]
theorem us14_out {α:Type} [Inhabited α] {us:α->Bool} (hus:us default = false) {xs:List α} {i:Int} (h:(xs.length:Int)<=i):us14 us xs i = false:=by
 rw [us14,gt14_out (by omega),hus,Bool.and_false]
theorem us14_off {α:Type} [Inhabited α] {us:α->Bool} (hus:us default = false) {xs:List α} {i:Int} (h:¬ (0<=i/\i < (xs.length:Int))):us14 us xs i = false:=by
 by_cases h0:0<=i
 · exact us14_out hus (by omega)
 · exact us14_neg us xs (by omega)
theorem at14_no {α:Type} [Inhabited α] {us:α->Bool} {xs:List α} {i:Int} (h:us14 us xs i = false):at14 us xs i = default:=by rw [at14,h]; rfl
theorem at14_yes {α:Type} [Inhabited α] {us:α->Bool} {xs:List α} {i:Int} (h:us14 us xs i = true):at14 us xs i = gt14 xs i.toNat:=by rw [at14,if_pos h]
theorem at14_nat {α:Type} [Inhabited α] {us:α->Bool} {xs:List α} {k:Nat} (h:us (gt14 xs k) = true):at14 us xs (k:Int) = gt14 xs k:=by rw [at14_yes (by rw [us14_nat]; exact h)]; simp
def Tidy14 {α:Type} [Inhabited α] (us:α->Bool) (xs:List α) (most:Nat):Prop:=xs.length<=most/\en14 us xs xs.length = xs.length/\∀ j,j < xs.length->us (gt14 xs j) = false->gt14 xs j = default
theorem def14C:usC default = false:=rfl
theorem at14C_no (A:Option Addr) (xs:List Bool) (n c:Nat) (i:Int) (w:World) (hl:xs.length = n) (hr:Lq clC w w.heap.size A xs) (hn:n<=1000000) (hu:us14 usC xs i = false) :
  Calls Tryz.prog 121 #[.slice A n c,.int .i64 i,.func (.func 122) #[] #[]] w fun e w' => e = .returned (.tuple #[.bool false,.bool false])/\Below w.heap.size w w':=by
 by_cases h:0<=i/\i < (n:Int)
 ·
  obtain ⟨k,rfl⟩:∃ k:Nat,i = (k:Int):=⟨i.toNat,by omega⟩
  have hk:k < n:=by omega
  obtain ⟨b,o,hA,hab,hq⟩:=Lq.at_ len14C (by omega) hr (show k < xs.length by omega);subst hA;rw [us14_nat] at hu;rw [show gt14 xs k = false from hu] at hq;have q0:w.cell? ⟨b,o + k,none⟩ = some (.bool false):=by have h:=hq 0 _ rfl; rwa [Nat.mul_one] at h
  have i0:(0:Int)<=(k:Int):=by omega
  have i1:(k:Int) < (n:Int):=by omega
  have HW:=qz (fun W => within14 (k:Int) (n:Int) true (by simp; omega) W);have HU:=qz (fun W => used14C false false rfl W);clear hq hu hr hl h;go_enter Tryz.func121,Tryz.ntmps121;go_wp2_with fail;refine (HW.out _).mono ?_;rintro e w0 ⟨rfl,rfl⟩;clear HW;go_wp2_with fail;refine (HU.out _).mono ?_;rintro e w1 ⟨rfl,hb1⟩;clear HU;go_wp2_with fail;go_ret2
  exact ⟨rfl,hb1⟩
 ·
  have HW:=qz (fun W => within14 i (n:Int) false (by simpa using h) W);clear hu hr hl h;go_enter Tryz.func121,Tryz.ntmps121;go_wp2_with fail;refine (HW.out _).mono ?_;rintro e w0 ⟨rfl,rfl⟩;clear HW;go_wp2_with fail;go_ret2;exact ⟨rfl,Below.refl _ _⟩
theorem at14C_yes (A:Option Addr) (xs:List Bool) (n c k:Nat) (xu:Bool) (w:World) (hl:xs.length = n) (hr:Lq clC w w.heap.size A xs) (hn:n<=1000000) (hk:k < n) (hx:gt14 xs k = xu) (hu:usC xu = true) :
  Calls Tryz.prog 121 #[.slice A n c,.int .i64 (k:Int),.func (.func 122) #[] #[]] w fun e w' => e = .returned (.tuple #[.bool xu,.bool true])/\Below w.heap.size w w':=by
 obtain ⟨b,o,hA,hab,hq⟩:=Lq.at_ len14C (by omega) hr (show k < xs.length by omega);subst hA;rw [hx] at hq;have HQ:Hid (w.cell? ⟨b,o + k,none⟩ = some (.bool xu)):=qz (by have h:=hq 0 _ rfl; rwa [Nat.mul_one] at h);have HAB:=qz hab;have q0:=HQ.out;have i0:(0:Int)<=(k:Int):=by omega
 have i1:(k:Int) < (n:Int):=by omega
 have HW:=qz (fun W => within14 (k:Int) (n:Int) true (by simp; omega) W);have HU:=qz (fun W => used14C xu true hu W);clear hq hx hu hr hl hab;go_enter Tryz.func121,Tryz.ntmps121;go_wp2_with fail;refine (HW.out _).mono ?_;rintro e w0 ⟨rfl,rfl⟩;clear HW;go_wp2_with fail;refine (HU.out _).mono ?_;rintro e w1 ⟨rfl,hb1⟩
 have q1:=(hb1.cell (p:=⟨b,o + k,none⟩) HAB.out).trans HQ.out;clear HU q0;go_wp2_with fail;go_ret2;exact ⟨rfl,hb1⟩
theorem len14T (x:Tk14):(clT x).length = 6:=rfl
theorem fields14T:Tryz.prog.underlying 55 = some (.struct (Tryz.prog.fieldsOf 55)):=by kernel_rfl
theorem held14T:Tryz.prog.stoodInHeld 55 = false:=by kernel_rfl
theorem neq14T (xu:Bool) (xc:Int) (xa:Int) (xk:Int) (xt:Int) (xo:Bool) (yu:Bool) (yc:Int) (ya:Int) (yk:Int) (yt:Int) (yo:Bool) (w:World):(binOp .neq 55 (.agg #[.bool xu,.int .i64 xc,.int .i64 xa,.int .i64 xk,.int .i64 xt,.bool xo]) (.agg #[.bool yu,.int .i64 yc,.int .i64 ya,.int .i64 yk,.int .i64 yt,.bool yo])).run Tryz.prog w = .ok (.bool (!decide ((⟨xu,xc,xa,xk,xt,xo⟩:Tk14) = ⟨yu,yc,ya,yk,yt,yo⟩))) w:=by
 have u3:=Tryz.underlying3;have u4:=Tryz.underlying4;have a3:=Tryz.isAgg3;have a4:=Tryz.isAgg4;have z3:=Tryz.sizeOf3;have z4:=Tryz.sizeOf4;rw [run_neq_struct,show (10000:Nat) = 9999 + 1 from rfl,run_equalIn_agg w 9999 55 _ _ fields14T held14T];simp only [Program.fieldsOf,Tryz.underlying55];go_simp;by_cases e0:xu = yu
 case neg => simp [e0]
 by_cases e1:xc = yc
 case neg => simp [e0,e1]
 by_cases e2:xa = ya
 case neg => simp [e0,e1,e2]
 by_cases e3:xk = yk
 case neg => simp [e0,e1,e2,e3]
 by_cases e4:xt = yt
 case neg => simp [e0,e1,e2,e3,e4]
 by_cases e5:xo = yo
 case neg => simp [e0,e1,e2,e3,e4,e5]
 simp [e0,e1,e2,e3,e4,e5]
theorem len14H (x:Th14):(clH x).length = 5:=rfl
theorem used14H (xz:Int) (xf:Int) (xc:Int) (xq:Int) (xu:Int) (b:Bool) (hb:usH ⟨xz,xf,xc,xq,xu⟩ = b) (w:World) :
  Calls Tryz.prog 58 #[.agg #[.int .i64 xz,.int .i64 xf,.int .i64 xc,.int .i64 xq,.int .i64 xu]] w fun e w' => e = .returned (.bool b)/\Below w.heap.size w w':=by
 have hk:=Blk.new w 60 #[.int .i64 xz,.int .i64 xf,.int .i64 xc,.int .i64 xq,.int .i64 xu];have c0:=hk.cell 0;have hb1:=b1' w (.cells #[.int .i64 xz,.int .i64 xf,.int .i64 xc,.int .i64 xq,.int .i64 xu] 60);clear hk;subst hb;by_cases h0:xz = 0
 ·
  subst h0;go_enter Tryz.func58,Tryz.ntmps58;go_wp2_with fail;go_ret;exact ⟨rfl,hb1⟩
 ·
  have HU:Hid (usH ⟨xz,xf,xc,xq,xu⟩ = (xz != 0)):=qz (by by_cases h:xz = 0 <;> simp [usH,h]);clear h0;go_enter Tryz.func58,Tryz.ntmps58;go_wp2_with fail;go_ret;exact ⟨by rw [HU.out]; rfl,hb1⟩
theorem ce5 {W:World} {g:Nat} {t:TypeId} {a b c d e:Value} {r:List Value} (h:Blk W g t (a::b::c::d::e::r).toArray):W.cell? ⟨g,0,none⟩ = some a/\W.cell? ⟨g,1,none⟩ = some b/\W.cell? ⟨g,2,none⟩ = some c/\W.cell? ⟨g,3,none⟩ = some d/\W.cell? ⟨g,4,none⟩ = some e:=⟨h.cell 0,h.cell 1,h.cell 2,h.cell 3,h.cell 4⟩
theorem fields14H:Tryz.prog.underlying 60 = some (.struct (Tryz.prog.fieldsOf 60)):=by kernel_rfl
theorem held14H:Tryz.prog.stoodInHeld 60 = false:=by kernel_rfl
theorem neq14H (xz:Int) (xf:Int) (xc:Int) (xq:Int) (xu:Int) (yz:Int) (yf:Int) (yc:Int) (yq:Int) (yu:Int) (w:World):(binOp .neq 60 (.agg #[.int .i64 xz,.int .i64 xf,.int .i64 xc,.int .i64 xq,.int .i64 xu]) (.agg #[.int .i64 yz,.int .i64 yf,.int .i64 yc,.int .i64 yq,.int .i64 yu])).run Tryz.prog w = .ok (.bool (!decide ((⟨xz,xf,xc,xq,xu⟩:Th14) = ⟨yz,yf,yc,yq,yu⟩))) w:=by
 have u3:=Tryz.underlying3;have u4:=Tryz.underlying4;have a3:=Tryz.isAgg3;have a4:=Tryz.isAgg4;have z3:=Tryz.sizeOf3;have z4:=Tryz.sizeOf4;rw [run_neq_struct,show (10000:Nat) = 9999 + 1 from rfl,run_equalIn_agg w 9999 60 _ _ fields14H held14H];simp only [Program.fieldsOf,Tryz.underlying60];go_simp;by_cases e0:xz = yz
 case neg => simp [e0]
 by_cases e1:xf = yf
 case neg => simp [e0,e1]
 by_cases e2:xc = yc
 case neg => simp [e0,e1,e2]
 by_cases e3:xq = yq
 case neg => simp [e0,e1,e2,e3]
 by_cases e4:xu = yu
 case neg => simp [e0,e1,e2,e3,e4]
 simp [e0,e1,e2,e3,e4]
theorem def14H:usH default = false:=rfl
theorem at14H_no (A:Option Addr) (xs:List Th14) (n c:Nat) (i:Int) (w:World) (hl:xs.length = n) (hr:Lq clH w w.heap.size A xs) (hn:n<=1000000) (hu:us14 usH xs i = false) :
  Calls Tryz.prog 57 #[.slice A n c,.int .i64 i,.func (.func 58) #[] #[]] w fun e w' => e = .returned (.tuple #[.agg #[.int .i64 0,.int .i64 0,.int .i64 0,.int .i64 0,.int .i64 0],.bool false])/\Below w.heap.size w w':=by
 have HB0:=qz (b1' w (.cells #[.int .i64 0,.int .i64 0,.int .i64 0,.int .i64 0,.int .i64 0] 60));have HK:=qz (Blk.new w 60 #[.int .i64 0,.int .i64 0,.int .i64 0,.int .i64 0,.int .i64 0])
 have fin:∀ W,Below w.heap.size w W->Blk W w.heap.size 60 #[.int .i64 0,.int .i64 0,.int .i64 0,.int .i64 0,.int .i64 0]->∃ W2,W2 = (((((W.setCell ⟨w.heap.size,0,none⟩ (.int .i64 0)).setCell ⟨w.heap.size,1,none⟩ (.int .i64 0)).setCell ⟨w.heap.size,2,none⟩ (.int .i64 0)).setCell ⟨w.heap.size,3,none⟩ (.int .i64 0)).setCell ⟨w.heap.size,4,none⟩ (.int .i64 0))/\Blk W2 w.heap.size 60 #[.int .i64 0,.int .i64 0,.int .i64 0,.int .i64 0,.int .i64 0]/\Below w.heap.size w W2:=fun W hB hK => ⟨_,rfl,
  by
   have h:=((((hK.set_ 0 (.int .i64 0)).set_ 1 (.int .i64 0)).set_ 2 (.int .i64 0)).set_ 3 (.int .i64 0)).set_ 4 (.int .i64 0);simpa using h,
  ((((hB.setCell (p:=⟨w.heap.size,0,none⟩) (Nat.le_refl _) (.int .i64 0)).setCell (p:=⟨w.heap.size,1,none⟩) (Nat.le_refl _) (.int .i64 0)).setCell (p:=⟨w.heap.size,2,none⟩) (Nat.le_refl _) (.int .i64 0)).setCell (p:=⟨w.heap.size,3,none⟩) (Nat.le_refl _) (.int .i64 0)).setCell (p:=⟨w.heap.size,4,none⟩) (Nat.le_refl _) (.int .i64 0)⟩
 have HF:=qz fin;by_cases h:0<=i/\i < (n:Int)
 ·
  obtain ⟨k,rfl⟩:∃ k:Nat,i = (k:Int):=⟨i.toNat,by omega⟩
  have hk:k < n:=by omega
  obtain ⟨b,o,hA,hab,hq⟩:=Lq.at_ len14H (by omega) hr (show k < xs.length by omega);subst hA;obtain ⟨x,hx⟩:=exq (gt14 xs k);rw [us14_nat,hx] at hu;rw [hx] at hq;obtain ⟨xz,xf,xc,xq,xu⟩:=x
  have hq':∀ i v,(clH ⟨xz,xf,xc,xq,xu⟩)[i]? = some v->(w.alloc (.cells #[.int .i64 0,.int .i64 0,.int .i64 0,.int .i64 0,.int .i64 0] 60)).cell? ⟨b,o + k * 5 + i,none⟩ = some v:=fun i v hv => (HB0.out.cell hab).trans (hq i v hv)
  have q0:(w.alloc (.cells #[.int .i64 0,.int .i64 0,.int .i64 0,.int .i64 0,.int .i64 0] 60)).cell? ⟨b,o + k * 5,none⟩ = some (.int .i64 xz):=hq' 0 _ rfl;have q1:(w.alloc (.cells #[.int .i64 0,.int .i64 0,.int .i64 0,.int .i64 0,.int .i64 0] 60)).cell? ⟨b,o + k * 5 + 1,none⟩ = some (.int .i64 xf):=hq' 1 _ rfl
  have q2:(w.alloc (.cells #[.int .i64 0,.int .i64 0,.int .i64 0,.int .i64 0,.int .i64 0] 60)).cell? ⟨b,o + k * 5 + 2,none⟩ = some (.int .i64 xc):=hq' 2 _ rfl;have q3:(w.alloc (.cells #[.int .i64 0,.int .i64 0,.int .i64 0,.int .i64 0,.int .i64 0] 60)).cell? ⟨b,o + k * 5 + 3,none⟩ = some (.int .i64 xq):=hq' 3 _ rfl
  have q4:(w.alloc (.cells #[.int .i64 0,.int .i64 0,.int .i64 0,.int .i64 0,.int .i64 0] 60)).cell? ⟨b,o + k * 5 + 4,none⟩ = some (.int .i64 xu):=hq' 4 _ rfl;have i0:(0:Int)<=(k:Int):=by omega
  have i1:(k:Int) < (n:Int):=by omega
  have HW:=qz (fun W => within14 (k:Int) (n:Int) true (by simp; omega) W);have HU:=qz (fun W => used14H xz xf xc xq xu false hu W);clear hq hq' hx hu fin hr hl h;go_enter Tryz.func57,Tryz.ntmps57;go_wp2_with fail;refine (HW.out _).mono ?_;rintro e w0 ⟨rfl,rfl⟩;clear HW;go_wp2_with fail;refine (HU.out _).mono ?_;rintro e w1 ⟨rfl,hb1⟩
  have HB1:=qz (HB0.out.trans (hb1.mono HB0.out.size));have HK1:=qz (HK.out.below hb1 HK.out.lt);clear HU hb1;obtain ⟨w2,hw2⟩:=exq (w1.alloc (.cells #[.int .i64 0,.int .i64 0,.int .i64 0,.int .i64 0,.int .i64 0] 60));have hb2:=HB1.out.alloc HB1.out.size (.cells #[.int .i64 0,.int .i64 0,.int .i64 0,.int .i64 0,.int .i64 0] 60)
  have hk2:=HK1.out.alloc (.cells #[.int .i64 0,.int .i64 0,.int .i64 0,.int .i64 0,.int .i64 0] 60);have hn2:=Blk.new w1 60 #[.int .i64 0,.int .i64 0,.int .i64 0,.int .i64 0,.int .i64 0];rw [hw2] at hb2 hk2 hn2;obtain ⟨w3,hw3,hk3,hb3⟩:=HF.out w2 hb2 hk2;obtain ⟨n0,n1,n2,n3,n4⟩:=ce5 hn2;have k0:=hk2.cell 0;have l0:=hk2.frozen 0;have k1:=hk2.cell 1
  have l1:=hk2.frozen 1;have k2:=hk2.cell 2;have l2:=hk2.frozen 2;have k3:=hk2.cell 3;have l3:=hk2.frozen 3;have k4:=hk2.cell 4;have l4:=hk2.frozen 4;have s0:=hk3.cell 0;have g0:=hk3.frozen 0;have s1:=hk3.cell 1;have g1:=hk3.frozen 1;have s2:=hk3.cell 2;have g2:=hk3.frozen 2;have s3:=hk3.cell 3;have g3:=hk3.frozen 3;have s4:=hk3.cell 4
  have g4:=hk3.frozen 4;have HB3:=qz hb3;clear hn2 hk2 hb2 hk3 hb3 HF;go_wp2_with fail;exact bodyPost_ret (v:=.tuple #[.agg #[.int .i64 0,.int .i64 0,.int .i64 0,.int .i64 0,.int .i64 0],.bool false]) (by rw [<- hw3]; simp [results,Tryz.results57,go_sem,s0,s1,s2,s3,s4,g0,g1,g2,g3,g4]) rfl ⟨rfl,by rw [<- hw3]; exact HB3.out⟩
 ·
  have HW:=qz (fun W => within14 i (n:Int) false (by simpa using h) W);clear hu hr hl h fin;obtain ⟨w1,hw1⟩:=exq (w.alloc (.cells #[.int .i64 0,.int .i64 0,.int .i64 0,.int .i64 0,.int .i64 0] 60));rw [hw1] at HB0 HK;obtain ⟨w2,hw2⟩:=exq (w1.alloc (.cells #[.int .i64 0,.int .i64 0,.int .i64 0,.int .i64 0,.int .i64 0] 60))
  have hb2:=HB0.out.alloc HB0.out.size (.cells #[.int .i64 0,.int .i64 0,.int .i64 0,.int .i64 0,.int .i64 0] 60);have hk2:=HK.out.alloc (.cells #[.int .i64 0,.int .i64 0,.int .i64 0,.int .i64 0,.int .i64 0] 60);have hn2:=Blk.new w1 60 #[.int .i64 0,.int .i64 0,.int .i64 0,.int .i64 0,.int .i64 0];rw [hw2] at hb2 hk2 hn2
  obtain ⟨w3,hw3,hk3,hb3⟩:=HF.out w2 hb2 hk2;obtain ⟨n0,n1,n2,n3,n4⟩:=ce5 hn2;have k0:=hk2.cell 0;have l0:=hk2.frozen 0;have k1:=hk2.cell 1;have l1:=hk2.frozen 1;have k2:=hk2.cell 2;have l2:=hk2.frozen 2;have k3:=hk2.cell 3;have l3:=hk2.frozen 3;have k4:=hk2.cell 4;have l4:=hk2.frozen 4;have s0:=hk3.cell 0;have g0:=hk3.frozen 0;have s1:=hk3.cell 1
  have g1:=hk3.frozen 1;have s2:=hk3.cell 2;have g2:=hk3.frozen 2;have s3:=hk3.cell 3;have g3:=hk3.frozen 3;have s4:=hk3.cell 4;have g4:=hk3.frozen 4;have HB3:=qz hb3;clear hn2 hk2 hb2 hk3 hb3 HF;go_enter Tryz.func57,Tryz.ntmps57;go_wp2_with fail;refine (HW.out _).mono ?_;rintro e w0 ⟨rfl,rfl⟩;clear HW;go_wp2_with fail
  exact bodyPost_ret (v:=.tuple #[.agg #[.int .i64 0,.int .i64 0,.int .i64 0,.int .i64 0,.int .i64 0],.bool false]) (by rw [<- hw3]; simp [results,Tryz.results57,go_sem,s0,s1,s2,s3,s4,g0,g1,g2,g3,g4]) rfl ⟨rfl,by rw [<- hw3]; exact HB3.out⟩
theorem at14H_yes (A:Option Addr) (xs:List Th14) (n c k:Nat) (xz:Int) (xf:Int) (xc:Int) (xq:Int) (xu:Int) (w:World) (hl:xs.length = n) (hr:Lq clH w w.heap.size A xs) (hn:n<=1000000) (hk:k < n) (hx:gt14 xs k = ⟨xz,xf,xc,xq,xu⟩) (hu:usH ⟨xz,xf,xc,xq,xu⟩ = true) :
  Calls Tryz.prog 57 #[.slice A n c,.int .i64 (k:Int),.func (.func 58) #[] #[]] w fun e w' => e = .returned (.tuple #[.agg #[.int .i64 xz,.int .i64 xf,.int .i64 xc,.int .i64 xq,.int .i64 xu],.bool true])/\Below w.heap.size w w':=by
 have HB0:=qz (b1' w (.cells #[.int .i64 0,.int .i64 0,.int .i64 0,.int .i64 0,.int .i64 0] 60));have HK:=qz (Blk.new w 60 #[.int .i64 0,.int .i64 0,.int .i64 0,.int .i64 0,.int .i64 0]);obtain ⟨b,o,hA,hab,hq⟩:=Lq.at_ len14H (by omega) hr (show k < xs.length by omega);subst hA;rw [hx] at hq
 have hq':∀ i v,(clH ⟨xz,xf,xc,xq,xu⟩)[i]? = some v->(w.alloc (.cells #[.int .i64 0,.int .i64 0,.int .i64 0,.int .i64 0,.int .i64 0] 60)).cell? ⟨b,o + k * 5 + i,none⟩ = some v:=fun i v hv => (HB0.out.cell hab).trans (hq i v hv)
 have HAB:Hid (b < (w.alloc (.cells #[.int .i64 0,.int .i64 0,.int .i64 0,.int .i64 0,.int .i64 0] 60)).heap.size):=qz (by simp; omega);have HQ:=qz hq';have q0:(w.alloc (.cells #[.int .i64 0,.int .i64 0,.int .i64 0,.int .i64 0,.int .i64 0] 60)).cell? ⟨b,o + k * 5,none⟩ = some (.int .i64 xz):=hq' 0 _ rfl
 have q1:(w.alloc (.cells #[.int .i64 0,.int .i64 0,.int .i64 0,.int .i64 0,.int .i64 0] 60)).cell? ⟨b,o + k * 5 + 1,none⟩ = some (.int .i64 xf):=hq' 1 _ rfl;have q2:(w.alloc (.cells #[.int .i64 0,.int .i64 0,.int .i64 0,.int .i64 0,.int .i64 0] 60)).cell? ⟨b,o + k * 5 + 2,none⟩ = some (.int .i64 xc):=hq' 2 _ rfl
 have q3:(w.alloc (.cells #[.int .i64 0,.int .i64 0,.int .i64 0,.int .i64 0,.int .i64 0] 60)).cell? ⟨b,o + k * 5 + 3,none⟩ = some (.int .i64 xq):=hq' 3 _ rfl;have q4:(w.alloc (.cells #[.int .i64 0,.int .i64 0,.int .i64 0,.int .i64 0,.int .i64 0] 60)).cell? ⟨b,o + k * 5 + 4,none⟩ = some (.int .i64 xu):=hq' 4 _ rfl;have i0:(0:Int)<=(k:Int):=by omega
 have i1:(k:Int) < (n:Int):=by omega
 have HW:=qz (fun W => within14 (k:Int) (n:Int) true (by simp; omega) W);have HU:=qz (fun W => used14H xz xf xc xq xu true hu W);clear hq hq' hx hu hr hl;go_enter Tryz.func57,Tryz.ntmps57;go_wp2_with fail;refine (HW.out _).mono ?_;rintro e w0 ⟨rfl,rfl⟩;clear HW;go_wp2_with fail;refine (HU.out _).mono ?_;rintro e w1 ⟨rfl,hb1⟩
 have hq1:∀ i v,(clH ⟨xz,xf,xc,xq,xu⟩)[i]? = some v->w1.cell? ⟨b,o + k * 5 + i,none⟩ = some v:=fun i v hv => (hb1.cell HAB.out).trans (HQ.out i v hv)
 have p0:w1.cell? ⟨b,o + k * 5,none⟩ = some (.int .i64 xz):=hq1 0 _ rfl;have p1:w1.cell? ⟨b,o + k * 5 + 1,none⟩ = some (.int .i64 xf):=hq1 1 _ rfl;have p2:w1.cell? ⟨b,o + k * 5 + 2,none⟩ = some (.int .i64 xc):=hq1 2 _ rfl;have p3:w1.cell? ⟨b,o + k * 5 + 3,none⟩ = some (.int .i64 xq):=hq1 3 _ rfl
 have p4:w1.cell? ⟨b,o + k * 5 + 4,none⟩ = some (.int .i64 xu):=hq1 4 _ rfl;have hK1:=HK.out.below hb1 HK.out.lt;have k0:=hK1.cell 0;have l0:=hK1.frozen 0;have k1:=hK1.cell 1;have l1:=hK1.frozen 1;have k2:=hK1.cell 2;have l2:=hK1.frozen 2;have k3:=hK1.cell 3;have l3:=hK1.frozen 3;have k4:=hK1.cell 4;have l4:=hK1.frozen 4
 have hK2:Blk (((((w1.setCell ⟨w.heap.size,0,none⟩ (.int .i64 xz)).setCell ⟨w.heap.size,1,none⟩ (.int .i64 xf)).setCell ⟨w.heap.size,2,none⟩ (.int .i64 xc)).setCell ⟨w.heap.size,3,none⟩ (.int .i64 xq)).setCell ⟨w.heap.size,4,none⟩ (.int .i64 xu)) w.heap.size 60 #[.int .i64 xz,.int .i64 xf,.int .i64 xc,.int .i64 xq,.int .i64 xu]:=by
  have h:=((((hK1.set_ 0 (.int .i64 xz)).set_ 1 (.int .i64 xf)).set_ 2 (.int .i64 xc)).set_ 3 (.int .i64 xq)).set_ 4 (.int .i64 xu);simpa using h
 have HB2:Hid (Below w.heap.size w (((((w1.setCell ⟨w.heap.size,0,none⟩ (.int .i64 xz)).setCell ⟨w.heap.size,1,none⟩ (.int .i64 xf)).setCell ⟨w.heap.size,2,none⟩ (.int .i64 xc)).setCell ⟨w.heap.size,3,none⟩ (.int .i64 xq)).setCell ⟨w.heap.size,4,none⟩ (.int .i64 xu))):=qz (by
  have hB:=HB0.out.trans (hb1.mono HB0.out.size)
  exact ((((hB.setCell (p:=⟨w.heap.size,0,none⟩) (Nat.le_refl _) (.int .i64 xz)).setCell (p:=⟨w.heap.size,1,none⟩) (Nat.le_refl _) (.int .i64 xf)).setCell (p:=⟨w.heap.size,2,none⟩) (Nat.le_refl _) (.int .i64 xc)).setCell (p:=⟨w.heap.size,3,none⟩) (Nat.le_refl _) (.int .i64 xq)).setCell (p:=⟨w.heap.size,4,none⟩) (Nat.le_refl _) (.int .i64 xu))
 have s0:=hK2.cell 0;have g0:=hK2.frozen 0;have s1:=hK2.cell 1;have g1:=hK2.frozen 1;have s2:=hK2.cell 2;have g2:=hK2.frozen 2;have s3:=hK2.cell 3;have g3:=hK2.frozen 3;have s4:=hK2.cell 4;have g4:=hK2.frozen 4;clear HU hb1 hq1 hK1 hK2;go_wp2_with fail
 exact bodyPost_ret (v:=.tuple #[.agg #[.int .i64 xz,.int .i64 xf,.int .i64 xc,.int .i64 xq,.int .i64 xu],.bool true]) (by simp [results,Tryz.results57,go_sem,s0,s1,s2,s3,s4,g0,g1,g2,g3,g4]) rfl ⟨rfl,HB2.out⟩
theorem len14L (x:Lk14):(clL x).length = 2:=rfl
theorem used14L (xu:Bool) (xh:Int) (b:Bool) (hb:usL ⟨xu,xh⟩ = b) (w:World) :
  Calls Tryz.prog 111 #[.agg #[.bool xu,.int .i64 xh]] w fun e w' => e = .returned (.bool b)/\Below w.heap.size w w':=by
 have hk:=Blk.new w 79 #[.bool xu,.int .i64 xh];have c0:=hk.cell 0;have hb1:=b1' w (.cells #[.bool xu,.int .i64 xh] 79);clear hk;subst hb;go_enter Tryz.func111,Tryz.ntmps111;go_wp2_with fail;go_ret;exact ⟨rfl,hb1⟩
theorem def14L:usL default = false:=rfl
theorem at14L_no (A:Option Addr) (xs:List Lk14) (n c:Nat) (i:Int) (w:World) (hl:xs.length = n) (hr:Lq clL w w.heap.size A xs) (hn:n<=1000000) (hu:us14 usL xs i = false) :
  Calls Tryz.prog 110 #[.slice A n c,.int .i64 i,.func (.func 111) #[] #[]] w fun e w' => e = .returned (.tuple #[.agg #[.bool false,.int .i64 0],.bool false])/\Below w.heap.size w w':=by
 have HB0:=qz (b1' w (.cells #[.bool false,.int .i64 0] 79));have HK:=qz (Blk.new w 79 #[.bool false,.int .i64 0])
 have fin:∀ W,Below w.heap.size w W->Blk W w.heap.size 79 #[.bool false,.int .i64 0]->∃ W2,W2 = ((W.setCell ⟨w.heap.size,0,none⟩ (.bool false)).setCell ⟨w.heap.size,1,none⟩ (.int .i64 0))/\Blk W2 w.heap.size 79 #[.bool false,.int .i64 0]/\Below w.heap.size w W2:=fun W hB hK => ⟨_,rfl,
  by
   have h:=(hK.set_ 0 (.bool false)).set_ 1 (.int .i64 0);simpa using h,
  (hB.setCell (p:=⟨w.heap.size,0,none⟩) (Nat.le_refl _) (.bool false)).setCell (p:=⟨w.heap.size,1,none⟩) (Nat.le_refl _) (.int .i64 0)⟩
 have HF:=qz fin;by_cases h:0<=i/\i < (n:Int)
 ·
  obtain ⟨k,rfl⟩:∃ k:Nat,i = (k:Int):=⟨i.toNat,by omega⟩
  have hk:k < n:=by omega
  obtain ⟨b,o,hA,hab,hq⟩:=Lq.at_ len14L (by omega) hr (show k < xs.length by omega);subst hA;obtain ⟨x,hx⟩:=exq (gt14 xs k);rw [us14_nat,hx] at hu;rw [hx] at hq;obtain ⟨xu,xh⟩:=x
  have hq':∀ i v,(clL ⟨xu,xh⟩)[i]? = some v->(w.alloc (.cells #[.bool false,.int .i64 0] 79)).cell? ⟨b,o + k * 2 + i,none⟩ = some v:=fun i v hv => (HB0.out.cell hab).trans (hq i v hv)
  have q0:(w.alloc (.cells #[.bool false,.int .i64 0] 79)).cell? ⟨b,o + k * 2,none⟩ = some (.bool xu):=hq' 0 _ rfl;have q1:(w.alloc (.cells #[.bool false,.int .i64 0] 79)).cell? ⟨b,o + k * 2 + 1,none⟩ = some (.int .i64 xh):=hq' 1 _ rfl;have i0:(0:Int)<=(k:Int):=by omega
  have i1:(k:Int) < (n:Int):=by omega
  have HW:=qz (fun W => within14 (k:Int) (n:Int) true (by simp; omega) W);have HU:=qz (fun W => used14L xu xh false hu W);clear hq hq' hx hu fin hr hl h;go_enter Tryz.func110,Tryz.ntmps110;go_wp2_with fail;refine (HW.out _).mono ?_;rintro e w0 ⟨rfl,rfl⟩;clear HW;go_wp2_with fail;refine (HU.out _).mono ?_;rintro e w1 ⟨rfl,hb1⟩
  have HB1:=qz (HB0.out.trans (hb1.mono HB0.out.size));have HK1:=qz (HK.out.below hb1 HK.out.lt);clear HU hb1;obtain ⟨w2,hw2⟩:=exq (w1.alloc (.cells #[.bool false,.int .i64 0] 79));have hb2:=HB1.out.alloc HB1.out.size (.cells #[.bool false,.int .i64 0] 79);have hk2:=HK1.out.alloc (.cells #[.bool false,.int .i64 0] 79)
  have hn2:=Blk.new w1 79 #[.bool false,.int .i64 0];rw [hw2] at hb2 hk2 hn2;obtain ⟨w3,hw3,hk3,hb3⟩:=HF.out w2 hb2 hk2;have n0:=hn2.cell 0;have n1:=hn2.cell 1;have k0:=hk2.cell 0;have l0:=hk2.frozen 0;have k1:=hk2.cell 1;have l1:=hk2.frozen 1;have s0:=hk3.cell 0;have g0:=hk3.frozen 0;have s1:=hk3.cell 1;have g1:=hk3.frozen 1;have HB3:=qz hb3
  clear hn2 hk2 hb2 hk3 hb3 HF;go_wp2_with fail;exact bodyPost_ret (v:=.tuple #[.agg #[.bool false,.int .i64 0],.bool false]) (by rw [<- hw3]; simp [results,Tryz.results110,go_sem,s0,s1,g0,g1]) rfl ⟨rfl,by rw [<- hw3]; exact HB3.out⟩
 ·
  have HW:=qz (fun W => within14 i (n:Int) false (by simpa using h) W);clear hu hr hl h fin;obtain ⟨w1,hw1⟩:=exq (w.alloc (.cells #[.bool false,.int .i64 0] 79));rw [hw1] at HB0 HK;obtain ⟨w2,hw2⟩:=exq (w1.alloc (.cells #[.bool false,.int .i64 0] 79));have hb2:=HB0.out.alloc HB0.out.size (.cells #[.bool false,.int .i64 0] 79)
  have hk2:=HK.out.alloc (.cells #[.bool false,.int .i64 0] 79);have hn2:=Blk.new w1 79 #[.bool false,.int .i64 0];rw [hw2] at hb2 hk2 hn2;obtain ⟨w3,hw3,hk3,hb3⟩:=HF.out w2 hb2 hk2;have n0:=hn2.cell 0;have n1:=hn2.cell 1;have k0:=hk2.cell 0;have l0:=hk2.frozen 0;have k1:=hk2.cell 1;have l1:=hk2.frozen 1;have s0:=hk3.cell 0;have g0:=hk3.frozen 0
  have s1:=hk3.cell 1;have g1:=hk3.frozen 1;have HB3:=qz hb3;clear hn2 hk2 hb2 hk3 hb3 HF;go_enter Tryz.func110,Tryz.ntmps110;go_wp2_with fail;refine (HW.out _).mono ?_;rintro e w0 ⟨rfl,rfl⟩;clear HW;go_wp2_with fail
  exact bodyPost_ret (v:=.tuple #[.agg #[.bool false,.int .i64 0],.bool false]) (by rw [<- hw3]; simp [results,Tryz.results110,go_sem,s0,s1,g0,g1]) rfl ⟨rfl,by rw [<- hw3]; exact HB3.out⟩
theorem at14L_yes (A:Option Addr) (xs:List Lk14) (n c k:Nat) (xu:Bool) (xh:Int) (w:World) (hl:xs.length = n) (hr:Lq clL w w.heap.size A xs) (hn:n<=1000000) (hk:k < n) (hx:gt14 xs k = ⟨xu,xh⟩) (hu:usL ⟨xu,xh⟩ = true) :
  Calls Tryz.prog 110 #[.slice A n c,.int .i64 (k:Int),.func (.func 111) #[] #[]] w fun e w' => e = .returned (.tuple #[.agg #[.bool xu,.int .i64 xh],.bool true])/\Below w.heap.size w w':=by
 have HB0:=qz (b1' w (.cells #[.bool false,.int .i64 0] 79));have HK:=qz (Blk.new w 79 #[.bool false,.int .i64 0]);obtain ⟨b,o,hA,hab,hq⟩:=Lq.at_ len14L (by omega) hr (show k < xs.length by omega);subst hA;rw [hx] at hq
 have hq':∀ i v,(clL ⟨xu,xh⟩)[i]? = some v->(w.alloc (.cells #[.bool false,.int .i64 0] 79)).cell? ⟨b,o + k * 2 + i,none⟩ = some v:=fun i v hv => (HB0.out.cell hab).trans (hq i v hv)
 have HAB:Hid (b < (w.alloc (.cells #[.bool false,.int .i64 0] 79)).heap.size):=qz (by simp; omega);have HQ:=qz hq';have q0:(w.alloc (.cells #[.bool false,.int .i64 0] 79)).cell? ⟨b,o + k * 2,none⟩ = some (.bool xu):=hq' 0 _ rfl;have q1:(w.alloc (.cells #[.bool false,.int .i64 0] 79)).cell? ⟨b,o + k * 2 + 1,none⟩ = some (.int .i64 xh):=hq' 1 _ rfl
 have i0:(0:Int)<=(k:Int):=by omega
 have i1:(k:Int) < (n:Int):=by omega
 have HW:=qz (fun W => within14 (k:Int) (n:Int) true (by simp; omega) W);have HU:=qz (fun W => used14L xu xh true hu W);clear hq hq' hx hu hr hl;go_enter Tryz.func110,Tryz.ntmps110;go_wp2_with fail;refine (HW.out _).mono ?_;rintro e w0 ⟨rfl,rfl⟩;clear HW;go_wp2_with fail;refine (HU.out _).mono ?_;rintro e w1 ⟨rfl,hb1⟩
 have hq1:∀ i v,(clL ⟨xu,xh⟩)[i]? = some v->w1.cell? ⟨b,o + k * 2 + i,none⟩ = some v:=fun i v hv => (hb1.cell HAB.out).trans (HQ.out i v hv)
 have p0:w1.cell? ⟨b,o + k * 2,none⟩ = some (.bool xu):=hq1 0 _ rfl;have p1:w1.cell? ⟨b,o + k * 2 + 1,none⟩ = some (.int .i64 xh):=hq1 1 _ rfl;have hK1:=HK.out.below hb1 HK.out.lt;have k0:=hK1.cell 0;have l0:=hK1.frozen 0;have k1:=hK1.cell 1;have l1:=hK1.frozen 1
 have hK2:Blk ((w1.setCell ⟨w.heap.size,0,none⟩ (.bool xu)).setCell ⟨w.heap.size,1,none⟩ (.int .i64 xh)) w.heap.size 79 #[.bool xu,.int .i64 xh]:=by
  have h:=(hK1.set_ 0 (.bool xu)).set_ 1 (.int .i64 xh);simpa using h
 have HB2:Hid (Below w.heap.size w ((w1.setCell ⟨w.heap.size,0,none⟩ (.bool xu)).setCell ⟨w.heap.size,1,none⟩ (.int .i64 xh))):=qz (by
  have hB:=HB0.out.trans (hb1.mono HB0.out.size)
  exact (hB.setCell (p:=⟨w.heap.size,0,none⟩) (Nat.le_refl _) (.bool xu)).setCell (p:=⟨w.heap.size,1,none⟩) (Nat.le_refl _) (.int .i64 xh))
 have s0:=hK2.cell 0;have g0:=hK2.frozen 0;have s1:=hK2.cell 1;have g1:=hK2.frozen 1;clear HU hb1 hq1 hK1 hK2;go_wp2_with fail;exact bodyPost_ret (v:=.tuple #[.agg #[.bool xu,.int .i64 xh],.bool true]) (by simp [results,Tryz.results110,go_sem,s0,s1,g0,g1]) rfl ⟨rfl,HB2.out⟩
theorem len14I (x:Int):(clI x).length = 1:=rfl
structure Sv14 where
 C:List Bool
 T:List Tk14
 H:List Th14
 L:List Lk14
 Q:List Int
 q:Int
structure SA14 (w:World) (S:Sv14) (A0 A1 A2 A3 A4:Option Addr) (n0 n1 n2 n3 n4 c0 c1 c2 c3 c4:Nat) (sq:Int):Prop where
 l0:S.C.length = n0
 l1:S.T.length = n1
 l2:S.H.length = n2
 l3:S.L.length = n3
 l4:S.Q.length = n4
 r0:Lq clC w w.heap.size A0 S.C
 r1:Lq clT w w.heap.size A1 S.T
 r2:Lq clH w w.heap.size A2 S.H
 r3:Lq clL w w.heap.size A3 S.L
 r4:Lq clI w w.heap.size A4 S.Q
 k0:n0<=c0
 k1:n1<=c1
 k2:n2<=c2
 k3:n3<=c3
 k4:n4<=c4
 m0:n0<=1000
 m1:n1<=1000
 m2:n2<=1000
 m3:n3<=1000
 m4:n4<=1000
 e:S.q = sq
theorem SA14.step {w w':World} {S:Sv14} {A0 A1 A2 A3 A4:Option Addr} {n0 n1 n2 n3 n4 c0 c1 c2 c3 c4:Nat} {sq:Int} (h:SA14 w S A0 A1 A2 A3 A4 n0 n1 n2 n3 n4 c0 c1 c2 c3 c4 sq) (hb:Below w.heap.size w w'):SA14 w' S A0 A1 A2 A3 A4 n0 n1 n2 n3 n4 c0 c1 c2 c3 c4 sq :=
 ⟨h.l0,h.l1,h.l2,h.l3,h.l4,h.r0.step hb,h.r1.step hb,h.r2.step hb,h.r3.step hb,h.r4.step hb,h.k0,h.k1,h.k2,h.k3,h.k4,h.m0,h.m1,h.m2,h.m3,h.m4,h.e⟩
def St14 (w:World) (v:Value) (S:Sv14):Prop:=∃ (A0 A1 A2 A3 A4:Option Addr) (n0 n1 n2 n3 n4 c0 c1 c2 c3 c4:Nat) (sq:Int),v = .agg #[.slice A0 n0 c0,.slice A1 n1 c1,.slice A2 n2 c2,.slice A3 n3 c3,.slice A4 n4 c4,.int .i64 sq]/\SA14 w S A0 A1 A2 A3 A4 n0 n1 n2 n3 n4 c0 c1 c2 c3 c4 sq
theorem at14C_any (A:Option Addr) (xs:List Bool) (n c:Nat) (i:Int) (xu:Bool) (b:Bool) (w:World) (hl:xs.length = n) (hr:Lq clC w w.heap.size A xs) (hn:n<=1000000) (hb:us14 usC xs i = b) (hx:at14 usC xs i = xu) :
  Calls Tryz.prog 121 #[.slice A n c,.int .i64 i,.func (.func 122) #[] #[]] w fun e w' => e = .returned (.tuple #[.bool xu,.bool b])/\Below w.heap.size w w':=by
 cases b with
 | false =>
  rw [at14_no hb] at hx;have hx2:(false:Bool) = xu:=hx;cases hx2
  exact at14C_no A xs n c i w hl hr hn hb
 | true =>
  have h0:0<=i/\i < (xs.length:Int):=Classical.byContradiction (fun h => by rw [us14_off def14C h] at hb; cases hb);obtain ⟨k,rfl⟩:∃ k:Nat,i = (k:Int):=⟨i.toNat,by omega⟩
  have hu:usC (gt14 xs k) = true:=by have h:=hb; rwa [us14_nat] at h
  rw [at14_nat hu] at hx;exact at14C_yes A xs n c k xu w hl hr hn (by omega) hx (by rw [<- hx]; exact hu)
theorem at14H_any (A:Option Addr) (xs:List Th14) (n c:Nat) (i:Int) (xz:Int) (xf:Int) (xc:Int) (xq:Int) (xu:Int) (b:Bool) (w:World) (hl:xs.length = n) (hr:Lq clH w w.heap.size A xs) (hn:n<=1000000) (hb:us14 usH xs i = b) (hx:at14 usH xs i = ⟨xz,xf,xc,xq,xu⟩) :
  Calls Tryz.prog 57 #[.slice A n c,.int .i64 i,.func (.func 58) #[] #[]] w fun e w' => e = .returned (.tuple #[.agg #[.int .i64 xz,.int .i64 xf,.int .i64 xc,.int .i64 xq,.int .i64 xu],.bool b])/\Below w.heap.size w w':=by
 cases b with
 | false =>
  rw [at14_no hb] at hx;have hx2:(⟨0,0,0,0,0⟩:Th14) = ⟨xz,xf,xc,xq,xu⟩:=hx;cases hx2
  exact at14H_no A xs n c i w hl hr hn hb
 | true =>
  have h0:0<=i/\i < (xs.length:Int):=Classical.byContradiction (fun h => by rw [us14_off def14H h] at hb; cases hb);obtain ⟨k,rfl⟩:∃ k:Nat,i = (k:Int):=⟨i.toNat,by omega⟩
  have hu:usH (gt14 xs k) = true:=by have h:=hb; rwa [us14_nat] at h
  rw [at14_nat hu] at hx;exact at14H_yes A xs n c k xz xf xc xq xu w hl hr hn (by omega) hx (by rw [<- hx]; exact hu)
theorem at14L_any (A:Option Addr) (xs:List Lk14) (n c:Nat) (i:Int) (xu:Bool) (xh:Int) (b:Bool) (w:World) (hl:xs.length = n) (hr:Lq clL w w.heap.size A xs) (hn:n<=1000000) (hb:us14 usL xs i = b) (hx:at14 usL xs i = ⟨xu,xh⟩) :
  Calls Tryz.prog 110 #[.slice A n c,.int .i64 i,.func (.func 111) #[] #[]] w fun e w' => e = .returned (.tuple #[.agg #[.bool xu,.int .i64 xh],.bool b])/\Below w.heap.size w w':=by
 cases b with
 | false =>
  rw [at14_no hb] at hx;have hx2:(⟨false,0⟩:Lk14) = ⟨xu,xh⟩:=hx;cases hx2
  exact at14L_no A xs n c i w hl hr hn hb
 | true =>
  have h0:0<=i/\i < (xs.length:Int):=Classical.byContradiction (fun h => by rw [us14_off def14L h] at hb; cases hb);obtain ⟨k,rfl⟩:∃ k:Nat,i = (k:Int):=⟨i.toNat,by omega⟩
  have hu:usL (gt14 xs k) = true:=by have h:=hb; rwa [us14_nat] at h
  rw [at14_nat hu] at hx;exact at14L_yes A xs n c k xu xh w hl hr hn (by omega) hx (by rw [<- hx]; exact hu)
theorem coin14 (v:Value) (S:Sv14) (i:Int) (b:Bool) (w:World) (h:St14 w v S) (hb:us14 usC S.C i = b) :
  Calls Tryz.prog 104 #[v,.int .i64 i] w fun e w' => e = .returned (.bool b)/\Below w.heap.size w w':=by
 obtain ⟨A0,A1,A2,A3,A4,n0,n1,n2,n3,n4,c0,c1,c2,c3,c4,sq,rfl,hs⟩:=h;have hb1:=b1' w (.cells #[.slice A0 n0 c0,.slice A1 n1 c1,.slice A2 n2 c2,.slice A3 n3 c3,.slice A4 n4 c4,.int .i64 sq] 28);have hk1:=Blk.new w 28 #[.slice A0 n0 c0,.slice A1 n1 c1,.slice A2 n2 c2,.slice A3 n3 c3,.slice A4 n4 c4,.int .i64 sq];have hs1:=hs.step hb1
 obtain ⟨w1,hw1⟩:=exq (w.alloc (.cells #[.slice A0 n0 c0,.slice A1 n1 c1,.slice A2 n2 c2,.slice A3 n3 c3,.slice A4 n4 c4,.int .i64 sq] 28));rw [hw1] at hb1 hk1 hs1;obtain ⟨xu,hx⟩:=exq (at14 usC S.C i);have HA:=qz (at14C_any A0 S.C n0 c0 i xu b w1 hs1.l0 hs1.r0 (by have:=hs1.m0; omega) hb hx);have HB1:=qz hb1;have q0:=hk1.cell 0;clear hs hs1 hk1 hb1 hb hx
 go_enter Tryz.func104,Tryz.ntmps104;go_wp2_with fail;refine HA.out.mono ?_;rintro e w2 ⟨rfl,hb2⟩;have HB2:=qz (HB1.out.trans (hb2.mono HB1.out.size));clear HA hb2;go_wp2_with fail;go_ret;exact ⟨rfl,HB2.out⟩
theorem thread14 (v:Value) (S:Sv14) (i:Int) (xz:Int) (xf:Int) (xc:Int) (xq:Int) (xu:Int) (b:Bool) (w:World) (h:St14 w v S) (hb:us14 usH S.H i = b) (hx:at14 usH S.H i = ⟨xz,xf,xc,xq,xu⟩) :
  Calls Tryz.prog 38 #[v,.int .i64 i] w fun e w' => e = .returned (.tuple #[.agg #[.int .i64 xz,.int .i64 xf,.int .i64 xc,.int .i64 xq,.int .i64 xu],.bool b])/\Below w.heap.size w w':=by
 obtain ⟨A0,A1,A2,A3,A4,n0,n1,n2,n3,n4,c0,c1,c2,c3,c4,sq,rfl,hs⟩:=h;have hb1:=b1' w (.cells #[.slice A0 n0 c0,.slice A1 n1 c1,.slice A2 n2 c2,.slice A3 n3 c3,.slice A4 n4 c4,.int .i64 sq] 28);have hk1:=Blk.new w 28 #[.slice A0 n0 c0,.slice A1 n1 c1,.slice A2 n2 c2,.slice A3 n3 c3,.slice A4 n4 c4,.int .i64 sq];have hs1:=hs.step hb1
 obtain ⟨w1,hw1⟩:=exq (w.alloc (.cells #[.slice A0 n0 c0,.slice A1 n1 c1,.slice A2 n2 c2,.slice A3 n3 c3,.slice A4 n4 c4,.int .i64 sq] 28));rw [hw1] at hb1 hk1 hs1;have hz1:w1.heap.size = w.heap.size + 1:=by rw [<- hw1]; simp
 have hb2:=b1' w1 (.cells #[.int .i64 0,.int .i64 0,.int .i64 0,.int .i64 0,.int .i64 0] 60);have hk2:=Blk.new w1 60 #[.int .i64 0,.int .i64 0,.int .i64 0,.int .i64 0,.int .i64 0];have hk12:=hk1.alloc (.cells #[.int .i64 0,.int .i64 0,.int .i64 0,.int .i64 0,.int .i64 0] 60);have hs2:=hs1.step hb2;rw [hz1] at hk2
 obtain ⟨w2,hw2⟩:=exq (w1.alloc (.cells #[.int .i64 0,.int .i64 0,.int .i64 0,.int .i64 0,.int .i64 0] 60));rw [hw2] at hb2 hk2 hk12 hs2;have HA:=qz (at14H_any A2 S.H n2 c2 i xz xf xc xq xu b w2 hs2.l2 hs2.r2 (by have:=hs2.m2; omega) hb hx);have HB2:=qz (hb1.trans (hb2.mono hb1.size));have HK2:=qz hk2;have q0:=hk12.cell 2
 clear hs hs1 hs2 hk1 hk12 hk2 hb1 hb2 hb hx;go_enter Tryz.func38,Tryz.ntmps38;go_wp2_with fail;refine HA.out.mono ?_;rintro e w3 ⟨rfl,hb3⟩;have hk3:=HK2.out.below hb3 HK2.out.lt;have k0:=hk3.cell 0;have l0:=hk3.frozen 0;have k1:=hk3.cell 1;have l1:=hk3.frozen 1;have k2:=hk3.cell 2;have l2:=hk3.frozen 2;have k3:=hk3.cell 3;have l3:=hk3.frozen 3
 have k4:=hk3.cell 4;have l4:=hk3.frozen 4
 have hk4:Blk (((((w3.setCell ⟨w.heap.size + 1,0,none⟩ (.int .i64 xz)).setCell ⟨w.heap.size + 1,1,none⟩ (.int .i64 xf)).setCell ⟨w.heap.size + 1,2,none⟩ (.int .i64 xc)).setCell ⟨w.heap.size + 1,3,none⟩ (.int .i64 xq)).setCell ⟨w.heap.size + 1,4,none⟩ (.int .i64 xu)) (w.heap.size + 1) 60 #[.int .i64 xz,.int .i64 xf,.int .i64 xc,.int .i64 xq,.int .i64 xu]:=by
  have h:=((((hk3.set_ 0 (.int .i64 xz)).set_ 1 (.int .i64 xf)).set_ 2 (.int .i64 xc)).set_ 3 (.int .i64 xq)).set_ 4 (.int .i64 xu);simpa using h
 have HB4:Hid (Below w.heap.size w (((((w3.setCell ⟨w.heap.size + 1,0,none⟩ (.int .i64 xz)).setCell ⟨w.heap.size + 1,1,none⟩ (.int .i64 xf)).setCell ⟨w.heap.size + 1,2,none⟩ (.int .i64 xc)).setCell ⟨w.heap.size + 1,3,none⟩ (.int .i64 xq)).setCell ⟨w.heap.size + 1,4,none⟩ (.int .i64 xu))):=qz (by
  have hB:=HB2.out.trans (hb3.mono HB2.out.size)
  exact ((((hB.setCell (p:=⟨w.heap.size + 1,0,none⟩) (by simp) (.int .i64 xz)).setCell (p:=⟨w.heap.size + 1,1,none⟩) (by simp) (.int .i64 xf)).setCell (p:=⟨w.heap.size + 1,2,none⟩) (by simp) (.int .i64 xc)).setCell (p:=⟨w.heap.size + 1,3,none⟩) (by simp) (.int .i64 xq)).setCell (p:=⟨w.heap.size + 1,4,none⟩) (by simp) (.int .i64 xu))
 have s0:=hk4.cell 0;have g0:=hk4.frozen 0;have s1:=hk4.cell 1;have g1:=hk4.frozen 1;have s2:=hk4.cell 2;have g2:=hk4.frozen 2;have s3:=hk4.cell 3;have g3:=hk4.frozen 3;have s4:=hk4.cell 4;have g4:=hk4.frozen 4;clear HA hb3 hk3 hk4;go_wp2_with fail
 exact bodyPost_ret (v:=.tuple #[.agg #[.int .i64 xz,.int .i64 xf,.int .i64 xc,.int .i64 xq,.int .i64 xu],.bool b]) (by simp [results,Tryz.results38,go_sem,s0,s1,s2,s3,s4,g0,g1,g2,g3,g4]) rfl ⟨rfl,HB4.out⟩
theorem lock14 (v:Value) (S:Sv14) (i:Int) (xu:Bool) (xh:Int) (b:Bool) (w:World) (h:St14 w v S) (hb:us14 usL S.L i = b) (hx:at14 usL S.L i = ⟨xu,xh⟩) :
  Calls Tryz.prog 94 #[v,.int .i64 i] w fun e w' => e = .returned (.tuple #[.agg #[.bool xu,.int .i64 xh],.bool b])/\Below w.heap.size w w':=by
 obtain ⟨A0,A1,A2,A3,A4,n0,n1,n2,n3,n4,c0,c1,c2,c3,c4,sq,rfl,hs⟩:=h;have hb1:=b1' w (.cells #[.slice A0 n0 c0,.slice A1 n1 c1,.slice A2 n2 c2,.slice A3 n3 c3,.slice A4 n4 c4,.int .i64 sq] 28);have hk1:=Blk.new w 28 #[.slice A0 n0 c0,.slice A1 n1 c1,.slice A2 n2 c2,.slice A3 n3 c3,.slice A4 n4 c4,.int .i64 sq];have hs1:=hs.step hb1
 obtain ⟨w1,hw1⟩:=exq (w.alloc (.cells #[.slice A0 n0 c0,.slice A1 n1 c1,.slice A2 n2 c2,.slice A3 n3 c3,.slice A4 n4 c4,.int .i64 sq] 28));rw [hw1] at hb1 hk1 hs1;have hz1:w1.heap.size = w.heap.size + 1:=by rw [<- hw1]; simp
 have hb2:=b1' w1 (.cells #[.bool false,.int .i64 0] 79);have hk2:=Blk.new w1 79 #[.bool false,.int .i64 0];have hk12:=hk1.alloc (.cells #[.bool false,.int .i64 0] 79);have hs2:=hs1.step hb2;rw [hz1] at hk2;obtain ⟨w2,hw2⟩:=exq (w1.alloc (.cells #[.bool false,.int .i64 0] 79));rw [hw2] at hb2 hk2 hk12 hs2
 have HA:=qz (at14L_any A3 S.L n3 c3 i xu xh b w2 hs2.l3 hs2.r3 (by have:=hs2.m3; omega) hb hx);have HB2:=qz (hb1.trans (hb2.mono hb1.size));have HK2:=qz hk2;have q0:=hk12.cell 3;clear hs hs1 hs2 hk1 hk12 hk2 hb1 hb2 hb hx;go_enter Tryz.func94,Tryz.ntmps94;go_wp2_with fail;refine HA.out.mono ?_;rintro e w3 ⟨rfl,hb3⟩;have hk3:=HK2.out.below hb3 HK2.out.lt
 have k0:=hk3.cell 0;have l0:=hk3.frozen 0;have k1:=hk3.cell 1;have l1:=hk3.frozen 1
 have hk4:Blk ((w3.setCell ⟨w.heap.size + 1,0,none⟩ (.bool xu)).setCell ⟨w.heap.size + 1,1,none⟩ (.int .i64 xh)) (w.heap.size + 1) 79 #[.bool xu,.int .i64 xh]:=by
  have h:=(hk3.set_ 0 (.bool xu)).set_ 1 (.int .i64 xh);simpa using h
 have HB4:Hid (Below w.heap.size w ((w3.setCell ⟨w.heap.size + 1,0,none⟩ (.bool xu)).setCell ⟨w.heap.size + 1,1,none⟩ (.int .i64 xh))):=qz (by
  have hB:=HB2.out.trans (hb3.mono HB2.out.size)
  exact (hB.setCell (p:=⟨w.heap.size + 1,0,none⟩) (by simp) (.bool xu)).setCell (p:=⟨w.heap.size + 1,1,none⟩) (by simp) (.int .i64 xh))
 have s0:=hk4.cell 0;have g0:=hk4.frozen 0;have s1:=hk4.cell 1;have g1:=hk4.frozen 1;clear HA hb3 hk3 hk4;go_wp2_with fail;exact bodyPost_ret (v:=.tuple #[.agg #[.bool xu,.int .i64 xh],.bool b]) (by simp [results,Tryz.results94,go_sem,s0,s1,g0,g1]) rfl ⟨rfl,HB4.out⟩
theorem bool14_of {b:Bool} {P:Prop} (h:b = true↔P) (hp:¬ P):b = false:=by
 cases b with
 | false => rfl
 | true => exact absurd (h.1 rfl) hp
end
end Go.Proofs.YtkdmnlihpebbkaaGreat
