/-
  SaidWorthKeeps, part 10 of 30: what the theorem worthKeeps_holds reaches.
-/
import Derived.Test.YtgopgbfgbddggaaGreatWK9
import Derived.Lib.BufferOwn
import Derived.RangeFuncKeeps
import Derived.Lib.ItoaNum
import Derived.Deep.RegionHeld3
import Derived.Deep.RegionLaw
import Derived.Deep.CutBlock
import Derived.Deep.DeepCutAuto
import Derived.Lib.AppendZeros
import Derived.Lib.AppendZerosOnto
set_option linter.all false
namespace Go.Proofs.YtgopgbfgbddggaaGreat
open Go.RowKit
set_option maxRecDepth 100000
def Nv (w:World) (L:Nat) (v:Value) (a:Nat):Prop:=∃ A xs n c,v = .slice A n c∧xs.length = n∧n≤c∧Ra w w.heap.size A xs∧Fa L A xs∧Cn xs∧U xs = a
theorem Nv.below {w w':World} {L:Nat} {v:Value} {a:Nat} (h:Nv w L v a) (hb:Below w.heap.size w w'):Nv w' L v a:=by
 obtain ⟨A,xs,n,c,h1,hl,h2,h3,h4,h5,h6⟩:=h
 exact ⟨A,xs,n,c,h1,hl,h2,(h3.below hb (Nat.le_refl _)).more hb.size,h4,h5,h6⟩
theorem Nv.more {w:World} {L L':Nat} {v:Value} {a:Nat} (h:Nv w L v a) (hL:L'≤L):Nv w L' v a:=by
 obtain ⟨A,xs,n,c,h1,hl,h2,h3,h4,h5,h6⟩:=h
 exact ⟨A,xs,n,c,h1,hl,h2,h3,h4.more hL,h5,h6⟩
theorem Nv.old {w:World} {L:Nat} {v:Value} {a:Nat} (h:Nv w L v a) {p:Addr} (hp:p.block < L) (u:Value):Nv (w.setCell p u) L v a:=by
 obtain ⟨A,xs,n,c,h1,hl,h2,h3,h4,h5,h6⟩:=h
 exact ⟨A,xs,n,c,h1,hl,h2,by rw [setCell_size]; exact h3.old h4 hp u,h4,h5,h6⟩
theorem Nv.form {w:World} {L:Nat} {v:Value} {a:Nat} (h:Nv w L v a) {k:Nat} (hk:a < 4294967296 ^ k) :
  ∃ A xs n c,v = .slice A n c∧Hid (xs.length = n)∧n≤c∧Ra w w.heap.size A xs∧Cn xs∧Hid (U xs = a)∧n≤k:=by
 obtain ⟨A,xs,n,c,h1,hl,h2,h3,h4,h5,h6⟩:=h
 exact ⟨A,xs,n,c,h1,hl,h2,h3,h5,h6,by have:=h5.len (k:=k) (by omega); omega⟩
theorem Nv.shape {w:World} {L:Nat} {v:Value} {a:Nat} (h:Nv w L v a):∃ A n c,v = .slice A n c:=by
 obtain ⟨A,xs,n,c,h1,_⟩:=h
 exact ⟨A,n,c,h1⟩
def RetNv (w:World) (a:Nat) (e:Ending) (w':World):Prop:=∃ v,e = .returned v∧Nv w' w.heap.size v a∧Below w.heap.size w w'
theorem Ra.lit (w:World) (t:TypeId) (xs:List Nat):Ra (w.alloc (.cells (u32s xs).toArray t)) (w.heap.size + 1) (some ⟨w.heap.size,0,none⟩) xs:=fun _ =>
 ⟨w.heap.size,0,rfl,by omega,fun k hk => by
  rw [(Blk.new w t (u32s xs).toArray).cell (0 + k),Nat.zero_add]
  simpa using u32s_get hk⟩
set_option maxHeartbeats 1000000 in
theorem natOf_any (a:Nat) (w:World) (ha:a < 18446744073709551616):Calls Tryz.prog 57 #[.int .u64 (a:Int)] w (RetNv w a):=by
 have h1:IntKind.u32.wrap (a:Int) = ((a % 4294967296:Nat):Int):=by simp [IntKind.wrap,IntKind.bits,IntKind.signed]
 have h2:IntKind.u32.wrap ((a:Int) / 4294967296) = ((a / 4294967296:Nat):Int):=by rw [IntWalk.u32_in _ (by omega)]; omega
 have hr:=Ra.lit w 84 [a % 4294967296,a / 4294967296]
 have hd:Dg [a % 4294967296,a / 4294967296]:=by intro d hd; simp at hd; omega
 have hu:U [a % 4294967296,a / 4294967296] = a:=by simp only [U]; omega
 have HU:=Lib.hid hu
 have H1:=Lib.hid h1
 have H2:=Lib.hid h2
 clear hu h1 h2
 go_enter Tryz.func57,Tryz.ntmps57
 go_wp2_with fail
 have hr':Ra (w.alloc (.cells #[.int .u32 ((a:Int) % 4294967296),.int .u32 ((a:Int) / 4294967296)] 84)) (w.alloc (.cells #[.int .u32 ((a:Int) % 4294967296),.int .u32 ((a:Int) / 4294967296)] 84)).heap.size (some ⟨w.heap.size,0,none⟩) [a % 4294967296,a / 4294967296]:=by
  simpa [u32s] using hr
 refine (shorten_any _ _ 2 2 _ (by rfl) hr' hd (by omega) (by omega)).mono ?_
 rintro e w' ⟨m,hm,rfl,hcan,hU,rfl⟩
 have HCan:=Lib.hid hcan
 have HUU:=Lib.hid (hU.trans HU.out)
 clear hcan hU
 go_wp2_with fail
 go_ret
 refine ⟨_,rfl,⟨_,[a % 4294967296,a / 4294967296].take m,m,2,rfl,by simp; omega,hm,hr'.take m,fun _ => ⟨_,_,rfl,Nat.le_refl _⟩,HCan.out,HUU.out⟩,(Below.refl _ _).alloc (Nat.le_refl _) _⟩
def Ow (w:World) (B:Nat) (v:Value) (n:Nat) (xs:List Nat):Prop:=w.ownsRow B 84 1 v n (u32s xs)
theorem Ow.len {w:World} {B:Nat} {v:Value} {n:Nat} {xs:List Nat} (h:Ow w B v n xs):xs.length = n:=by have:=h.1; rw [u32s_length] at this; omega
theorem Ow.form {w:World} {B:Nat} {v:Value} {n:Nat} {xs:List Nat} (h:Ow w B v n xs):∃ A c,v = .slice A n c∧n≤c:=ownsRow_form w h
theorem Ow.below {w w':World} {B:Nat} {v:Value} {n:Nat} {xs:List Nat} (h:Ow w B v n xs) (hb:Below w.heap.size w w'):Ow w' B v n xs:=by
 have hlt:=World.ownsRow.lt h
 obtain ⟨h1,h2⟩:=h
 refine ⟨h1,?_⟩
 rcases h2 with h2 | ⟨g,cap,cur,rfl,hg,hh,r⟩
 · exact .inl h2
 · exact .inr ⟨g,cap,cur,rfl,hg,by rw [hb.block g (hlt g rfl).2]; exact hh,r⟩
theorem Ow.more {w:World} {B B':Nat} {v:Value} {n:Nat} {xs:List Nat} (h:Ow w B v n xs) (hB:B'≤B):Ow w B' v n xs:=by
 obtain ⟨h1,h2⟩:=h
 refine ⟨h1,?_⟩
 rcases h2 with h2 | ⟨g,cap,cur,rfl,hg,hh,r⟩
 · exact .inl h2
 · exact .inr ⟨g,cap,cur,rfl,by omega,hh,r⟩
theorem Ow.take {w:World} {B:Nat} {A:Option Addr} {n c:Nat} {xs:List Nat} (h:Ow w B (.slice A n c) n xs) {m:Nat} (hm:m≤n):Ow w B (.slice A m c) m (xs.take m):=by
 have hl:=h.len
 obtain ⟨h1,h2⟩:=h
 refine ⟨by rw [u32s_length]; simp; omega,?_⟩
 rcases h2 with ⟨h2,h3⟩ | ⟨g,cap,cur,hv,hg,hh,hn,hc,hsz,ht⟩
 ·
  injection h2 with h4 h5 h6
  subst h4 h5 h6
  obtain rfl:m = 0:=by omega
  exact .inl ⟨rfl,rfl⟩
 ·
  injection hv with h4 h5 h6
  subst h4 h6
  refine .inr ⟨g,c,cur,rfl,hg,hh,by omega,hc,hsz,?_⟩
  have e:u32s (xs.take m) = (u32s xs).take m:=by simp [u32s,List.map_take]
  rw [e,← ht,List.take_take,Nat.min_eq_left (by simp; omega),Nat.mul_one]
theorem Ow.reads {w:World} {B:Nat} {A:Option Addr} {n c:Nat} {xs:List Nat} (h:Ow w B (.slice A n c) n xs):Ra w w.heap.size A xs∧Fa B A xs:=⟨Ra.of_own h,Fa.of_own h⟩
theorem Ow.nv {w:World} {B:Nat} {A:Option Addr} {n c:Nat} {xs:List Nat} (h:Ow w B (.slice A n c) n xs) (hc:n≤c) (hcan:Cn xs):Nv w B (.slice A n c) (U xs) :=
 ⟨A,xs,n,c,rfl,h.len,hc,h.reads.1,h.reads.2,hcan,rfl⟩
theorem Ow.nil (w:World) (B:Nat):Ow w B (.slice none 0 0) 0 []:=World.ownsRow_nil _ _ _ _
def RetOw (w:World) (xs:List Nat) (e:Ending) (w':World):Prop:=∃ v,e = .returned v∧Ow w' w.heap.size v xs.length xs∧Below w.heap.size w w'
theorem nil_is:∀ (n c:Nat) (w:World),(binOp .eql 39 (.slice none n c) (.slice none 0 0)).run Tryz.prog w = .ok (.bool true) w:=fun _ _ _ => by kernel_rfl
theorem nil_not:∀ (a:Addr) (n c:Nat) (w:World),(binOp .eql 39 (.slice (some a) n c) (.slice none 0 0)).run Tryz.prog w = .ok (.bool false) w:=fun _ _ _ _ => by kernel_rfl
theorem clone_done {w w1:World} {A':Option Addr} {c' n':Nat} {xs:List Nat} (hl:([] ++ xs).length = n') (hown:w1.ownsRow w.heap.size 84 1 (.slice A' n' c') n' (u32s ([] ++ xs)))
  (hg:(w.alloc (.cells #[] 84)).grownBy w1 (Value.slice (some ⟨w.heap.size,0,none⟩) 0 0).ownBlock):RetOw w xs (.returned (.slice A' n' c')) w1:=by
 rw [List.nil_append] at hl hown
 subst hl
 exact ⟨_,rfl,hown,((Below.refl _ _).alloc (Nat.le_refl _) _).grown hg (by simp) (by intro k hk; simp [Value.ownBlock] at hk; omega)⟩
set_option maxHeartbeats 1000000 in
theorem clone_any (A:Option Addr) (xs:List Nat) (n c:Nat) (w:World) (hl:xs.length = n) (hr:Ra w w.heap.size A xs) (hn:n≤10000000) :
  Calls Tryz.prog 115 #[.slice A n c] w (RetOw w xs):=by
 have HL:=Lib.hid hl
 have hni:=nil_is
 have hnn:=nil_not
 clear hl
 cases A with
 | none =>
  obtain rfl:xs = []:=by
   rcases xs with _ | ⟨y,r⟩
   · rfl
   ·
    obtain ⟨_,_,h,_⟩:=hr (by simp)
    cases h
  obtain rfl:n = 0:=by simpa using HL.out.symm
  go_enter Tryz.func115,Tryz.ntmps115
  go_wp2
  go_ret
  exact ⟨_,rfl,Ow.nil _ _,Below.refl _ _⟩
 | some ad =>
  have HO:Hid ((w.alloc (.cells #[] 84)).ownsRow w.heap.size 84 1 (.slice (some ⟨w.heap.size,0,none⟩) 0 0) ([]:List Nat).length (u32s [])) :=
   Lib.hid (by have:=World.ownsRow_made (base:=w.heap.size) (e:=84) (size:=1) w #[] 0 (by simp) (by decide) rfl; simpa [u32s] using this)
  have HR:=Lib.hid (hr.alloc (Nat.le_refl _) (.cells #[] 84))
  go_enter Tryz.func115,Tryz.ntmps115
  go_wp2_with (at_builtin; go_loud (refine wpList_append_u32s _ rfl (.tmp 5) (.tmp 6) 39 rfl w.heap.size 84 Tryz.underlying39 info_u32 (.slice (some ⟨w.heap.size,0,none⟩) 0 0) [] rfl HO.out w.heap.size (some ad) n xs _ HL.out rfl HR.out (by have:=HL.out; simp; omega) (by simp) ?_); intro A' n' c' w1 hl1 hc1 hown1 hg1)
  go_ret
  exact clone_done hl1.out hown1.out hg1
def Win (w:World) (g:Nat) (t:TypeId) (L:List Value) (xs:List Nat) (R:List Value):Prop:=Blk w g t (L ++ u32s xs ++ R).toArray
theorem Win.lt {w:World} {g:Nat} {t:TypeId} {L R:List Value} {xs:List Nat} (h:Win w g t L xs R):g < w.heap.size:=Blk.lt h
theorem Win.cell {w:World} {g:Nat} {t:TypeId} {L R:List Value} {xs:List Nat} (h:Win w g t L xs R) {o:Nat} (ho:L.length = o) {k:Nat} (hk:k < xs.length) :
  w.cell? ⟨g,o + k,none⟩ = some (.int .u32 ((nth xs k:Nat):Int)):=by
 rw [Blk.cell h]
 have e:=u32s_get hk
 have hl:=u32s_length xs
 simp only [List.getElem?_toArray,List.append_assoc]
 rw [List.getElem?_append_right (by omega),List.getElem?_append_left (by omega),show o + k - L.length = k by omega,e]
theorem Win.frozen {w:World} {g:Nat} {t:TypeId} {L R:List Value} {xs:List Nat} (h:Win w g t L xs R) (i:Nat):w.frozen? ⟨g,i,none⟩ = false:=Blk.frozen h i
theorem Win.set {w:World} {g:Nat} {t:TypeId} {L R:List Value} {xs:List Nat} (h:Win w g t L xs R) {o:Nat} (ho:L.length = o) {k:Nat} (hk:k < xs.length) (d:Nat) :
  Win (w.setCell ⟨g,o + k,none⟩ (.int .u32 (d:Int))) g t L (xs.set k d) R:=by
 have:=Blk.set_ h (o + k) (.int .u32 (d:Int))
 have e:(L ++ u32s xs ++ R).toArray.setIfInBounds (o + k) (.int .u32 (d:Int)) = (L ++ u32s (xs.set k d) ++ R).toArray:=by
  have hl:=u32s_length xs
  simp only [List.setIfInBounds_toArray,List.append_assoc]
  rw [List.set_append_right _ _ (by omega),List.set_append_left _ _ (by omega),show o + k - L.length = k by omega]
  simp [u32s,List.map_set]
 rw [e] at this
 exact this
theorem Win.put {w:World} {g:Nat} {t:TypeId} {L R:List Value} {xs:List Nat} (h:Win w g t L xs R) {o:Nat} (ho:L.length = o) {k:Nat} (hk:k < xs.length) {d:Nat} {u:Int} (hu:u = (d:Int)) :
  Win (w.setCell ⟨g,o + k,none⟩ (.int .u32 u)) g t L (xs.set k d) R:=hu ▸ h.set ho hk d
theorem Win.below {w w':World} {g B:Nat} {t:TypeId} {L R:List Value} {xs:List Nat} (h:Win w g t L xs R) (hb:Below B w w') (hg:g < B):Win w' g t L xs R:=Blk.below h hb hg
theorem Win.reads {w:World} {g:Nat} {t:TypeId} {L R:List Value} {xs:List Nat} (h:Win w g t L xs R) {o:Nat} (ho:L.length = o):Ra w w.heap.size (some ⟨g,o,none⟩) xs :=
 fun _ => ⟨g,o,rfl,h.lt,fun _ hk => h.cell ho hk⟩
theorem Win.far_ {w:World} {g:Nat} {t:TypeId} {L R:List Value} {xs:List Nat} (h:Win w g t L xs R) {p:Addr} (hp:g≠p.block) (u:Value):Win (w.setCell p u) g t L xs R:=Blk.far h hp u
theorem Ow.win {w:World} {B n c g:Nat} {xs:List Nat} (h:Ow w B (.slice (some ⟨g,0,none⟩) n c) n xs):∃ R,Win w g 84 [] xs R∧B≤g∧n + R.length = c∧c≤maxLen:=by
 have hl:=h.len
 rcases h.2 with ⟨h2,_⟩ | ⟨g',cap,cur,hv,hg,hh,hn,hc,hsz,ht⟩
 · injection h2 with h2; cases h2
 ·
  injection hv with h4 h5 h6
  injection h4 with h4
  injection h4 with h4
  subst h4 h6
  refine ⟨cur.toList.drop n,?_,hg,by simp; omega,hc⟩
  unfold Win Blk
  rw [List.nil_append,← ht,Nat.mul_one,List.take_append_drop]
  simpa using hh
theorem Ow.of_win {w:World} {B n c g:Nat} {xs:List Nat} {R:List Value} (h:Win w g 84 [] xs R) (hl:xs.length = n) (hB:B≤g) (hc:n + R.length = c) (hm:c≤maxLen):Ow w B (.slice (some ⟨g,0,none⟩) n c) n xs:=by
 have hlu:=u32s_length xs
 refine ⟨by rw [hlu]; omega,.inr ⟨g,c,_,rfl,hB,h,by omega,hm,by simp; omega,?_⟩⟩
 simp only [List.nil_append]
 rw [List.take_append_of_le_length (by omega),List.take_of_length_le (by omega)]
theorem wrote_below {w w':World} {g B:Nat} (h:w.grownBy w' (some g)) (hB:B≤g) (hg:g < w.heap.size):Below B w w':=(Below.refl B w).grown h (by omega) (fun k e => by cases e; exact hB)
theorem wrote_ra {w w':World} {g:Nat} (h:w.grownBy w' (some g)) {A:Option Addr} {xs:List Nat} (hr:Ra w g A xs) (hg:g < w.heap.size):Ra w' g A xs :=
 hr.keep fun p hp => World.cell?_of_block (h.block p.block (by omega) (by intro e; injection e with e; omega))
theorem wrote_set {a w:World} {b:Nat} (h:a.grownBy w (some b)) (i:Nat) (v:Value):a.grownBy (w.setCell ⟨b,i,none⟩ v) (some b):=Lib.grownBy_setB h i v
theorem Blk.kept {w w':World} {g:Nat} {t:TypeId} {cs:Array Value} (h:Blk w g t cs) {row:Option Nat} (hg:w.grownBy w' row) (hr:∀ r,row = some r→∃ o:Obj,w.heap[r]? = some o∧o.isCells = false):Blk w' g t cs :=
 (hg.block g h.lt (fun e => by obtain ⟨o,ho,hc⟩:=hr g e.symm; rw [show w.heap[g]? = _ from h] at ho; cases ho; cases hc)).trans h
theorem Win.kept {w w':World} {g:Nat} {t:TypeId} {L R:List Value} {xs:List Nat} (h:Win w g t L xs R) {row:Option Nat} (hg:w.grownBy w' row) (hr:∀ r,row = some r→∃ o:Obj,w.heap[r]? = some o∧o.isCells = false):Win w' g t L xs R:=Blk.kept h hg hr
theorem wrote_more {w w' w'':World} {g:Nat} (h:w.grownBy w' (some g)) {row:Option Nat} (hg:w'.grownBy w'' row) (hr:∀ r,row = some r→w.heap.size≤r):w.grownBy w'' (some g) :=
 ⟨hg.os.trans h.os,hg.tape.trans h.tape,hg.output.trans h.output,Nat.le_trans h.size hg.size,fun i hi hne => (hg.block i (Nat.lt_of_lt_of_le hi h.size) (fun e => by have:=hr i e.symm; omega)).trans (h.block i hi hne)⟩
theorem below_then {w w' w'':World} {g:Nat} (h:Below w.heap.size w w') (k:w'.grownBy w'' (some g)):w.grownBy w'' (some g) :=
 ⟨k.os.trans h.os,k.tape.trans h.tape,k.output.trans h.output,Nat.le_trans h.size k.size,fun i hi hne => (k.block i (Nat.lt_of_lt_of_le hi h.size) hne).trans (h.block i hi)⟩
theorem Dg.set {ds:List Nat} (h:Dg ds) {j r:Nat} (hr:r < 4294967296):Dg (ds.set j r):=fun d hd => by
 rcases List.mem_or_eq_of_mem_set hd with h1 | h1
 · exact h d h1
 · omega
theorem nth_set32 {ds:List Nat} {j r i:Nat} (hj:j < ds.length):nth (ds.set j r) i = if i = j then r else nth ds i:=by
 simp only [nth,List.getD_eq_getElem?_getD,List.getElem?_set]
 by_cases h:j = i
 · subst h; simp [hj]
 ·
  have:¬ i = j:=fun e => h e.symm
  simp [h,this]
theorem U_set_take {zs:List Nat} {k r:Nat} (hk:k < zs.length):U ((zs.set k r).take (k + 1)) = U (zs.take k) + 4294967296 ^ k * r:=by
 rw [U_take_succ,nth_set32 hk,if_pos rfl,List.take_set_of_le (Nat.le_refl k)]
def AddIn (xs ys zs:List Nat) (n k ov:Nat):Prop :=
 zs.length = n∧Dg zs∧(∀ j,k≤j→nth zs j = nth xs j)∧U (zs.take k) + 4294967296 ^ k * ov = U (xs.take k) + U (ys.take k)∧ov≤1
theorem AddIn.step {xs ys zs:List Nat} {n k ov X:Nat} (h:AddIn xs ys zs n k ov) (hk:k < n) (hX:nth xs k + nth ys k + ov = X) (hy:nth ys k < 4294967296):AddIn xs ys (zs.set k (X % 4294967296)) n (k + 1) (X / 4294967296):=by
 obtain ⟨hl,hd,hz,hU,ho⟩:=h
 have hzk:=hz k (Nat.le_refl k)
 have hdk:=hd.nth k
 refine ⟨by simp [hl],hd.set (by omega),fun j hj => by rw [nth_set32 (by omega),if_neg (by omega)]; exact hz j (by omega),?_,by omega⟩
 rw [U_set_take (by omega),U_take_succ xs,U_take_succ ys,Nat.pow_succ]
 have:=Nat.div_add_mod X 4294967296
 generalize X / 4294967296 = q at *
 generalize X % 4294967296 = r at *
 subst this
 generalize 4294967296 ^ k = P at *
 have e:P * (nth xs k + nth ys k + ov) = P * (4294967296 * q + r):=by rw [hX]
 grind
theorem nth_drop_ext {a b:List Nat} {k:Nat} (hl:a.length = b.length) (h:∀ j,k≤j→nth a j = nth b j):a.drop k = b.drop k:=by
 apply List.ext_getElem
 · simp [hl]
 ·
  intro i h1 h2
  have:=h (k + i) (by omega)
  simp only [List.length_drop] at h1 h2
  rw [nth_in (by omega),nth_in (by omega)] at this
  simpa using this
theorem U_split (xs:List Nat) (k:Nat) (hk:k≤xs.length):U xs = U (xs.take k) + 4294967296 ^ k * U (xs.drop k):=by
 have:=U_append (xs.take k) (xs.drop k)
 rw [List.take_append_drop,List.length_take,Nat.min_eq_left hk] at this
 exact this
theorem AddIn.done {xs ys zs:List Nat} {n k ov:Nat} (h:AddIn xs ys zs n k ov) (hx:xs.length = n) (hk:k≤n) (hy:ys.length≤n) (he:k = n∨(ys.length≤k∧ov = 0)):U zs + 4294967296 ^ n * ov = U xs + U ys:=by
 obtain ⟨hl,hd,hz,hU,ho⟩:=h
 rcases he with rfl | ⟨h1,rfl⟩
 · rwa [U_take_all zs _ (by omega),U_take_all xs _ (by omega),U_take_all ys _ (by omega)] at hU
 ·
  rw [U_take_all ys _ h1] at hU
  rw [U_split zs k (by omega),U_split xs k (by omega),nth_drop_ext (by omega) hz]
  omega
def AddedInto (w:World) (g:Nat) (L:List Value) (xs ys:List Nat) (R:List Value) (n:Nat) (e:Ending) (w':World):Prop :=
 ∃ ov zs,e = .returned (.int .u32 ((ov:Nat):Int))∧zs.length = n∧Dg zs∧U zs + 4294967296 ^ n * ov = U xs + U ys∧ov≤1∧Win w' g 84 L zs R∧w.grownBy w' (some g)
set_option maxHeartbeats 2000000 in
theorem addInto_any (g o:Nat) (L R:List Value) (xs ys:List Nat) (n c n2 c2:Nat) (A2:Option Addr) (w:World) (hx:xs.length = n) (hy:ys.length = n2) (hL:L.length = o) (hw:Win w g 84 L xs R)
  (hr:Ra w g A2 ys) (hd:Dg xs) (hd2:Dg ys) (hn:n≤10000000) (hn2:n2≤n) (hc:n≤c) :
  Calls Tryz.prog 116 #[.slice (some ⟨g,o,none⟩) n c,.slice A2 n2 c2] w (AddedInto w g L xs ys R n):=by
 have HX:=Lib.hid hx
 have HY:=Lib.hid hy
 have HL:=Lib.hid hL
 have hgl:=hw.lt
 clear hx hy hL
 go_enter Tryz.func116,Tryz.ntmps116
 go_wp2_with fail
 go_loopw [5,6] (fun cv iv wr => ∃ k ov zs,cv = .int .u64 ((ov:Nat):Int)∧iv = .int .i64 ((k:Nat):Int)∧k≤n∧AddIn xs ys zs n k ov∧Win wr g 84 L zs R∧w.grownBy wr (some g)) (fun _ iv _ => n - (intOf iv).toNat)
 case atStart => exact ⟨0,0,xs,rfl,rfl,by omega,⟨HX.out,hd,fun _ _ => rfl,by simp [U],by omega⟩,hw,World.grownBy.refl _ _⟩
 case round =>
  obtain ⟨k,ov,zs,rfl,rfl,hk,hin,hwin,hgr⟩:=hrel
  have HI:=Lib.hid hin
  have ho1:ov≤1:=hin.2.2.2.2
  have hzl:Hid (zs.length = n):=Lib.hid hin.1
  have hzk:Hid (k < n→nth zs k = nth xs k):=Lib.hid (fun _ => hin.2.2.1 k (Nat.le_refl k))
  have hxk:=hd.nth k
  have hyk:=hd2.nth k
  clear hin
  have hcases:(k < n∧k < n2)∨(k < n∧¬ k < n2∧ov = 1)∨(k < n∧¬ k < n2∧ov = 0)∨(¬ k < n):=by omega
  rcases hcases with ⟨hkn,hk2⟩ | ⟨hkn,hk2,rfl⟩ | ⟨hkn,hk2,rfl⟩ | hkn
  ·
   have cz:=hwin.cell HL.out (k:=k) (by have:=hzl.out; omega)
   rw [hzk.out hkn] at cz
   have fz:=hwin.frozen (o + k)
   obtain ⟨b2,o2,hA2,_,cy⟩:=(wrote_ra hgr hr hgl).at_ (k:=k) (by have:=HY.out; omega)
   subst hA2
   obtain ⟨X,hX⟩:∃ X,nth xs k + nth ys k + ov = X:=⟨_,rfl⟩
   have hXX:=Lib.hid hX
   have hXe:(ov:Int) + (nth xs k:Int) + (nth ys k:Int) = (X:Int):=by omega
   have hst:=Lib.hid (HI.out.step hkn hX hyk)
   clear hX
   go_wp2_with fail
   go_roundw
   case rel => exact ⟨k + 1,X / 4294967296,zs.set k (X % 4294967296),by go_num,by go_num,by omega,hst.out,hwin.put HL.out (by have:=hzl.out; omega) (by omega),wrote_set hgr _ _⟩
   case measure => simp [intOf]; omega
  ·
   have cz:=hwin.cell HL.out (k:=k) (by have:=hzl.out; omega)
   rw [hzk.out hkn] at cz
   have fz:=hwin.frozen (o + k)
   obtain ⟨X,hX⟩:∃ X,nth xs k + nth ys k + 1 = X:=⟨_,rfl⟩
   have hXe:(1:Int) + (nth xs k:Int) = (X:Int):=by have:=nth_out (xs:=ys) (i:=k) (by have:=HY.out; omega); omega
   have hst:=Lib.hid (HI.out.step hkn hX hyk)
   clear hX
   go_wp2_with fail
   go_roundw
   case rel => exact ⟨k + 1,X / 4294967296,zs.set k (X % 4294967296),by go_num,by go_num,by omega,hst.out,hwin.put HL.out (by have:=hzl.out; omega) (by omega),wrote_set hgr _ _⟩
   case measure => simp [intOf]; omega
  ·
   have hfin:=Lib.hid (HI.out.done HX.out hk (by have:=HY.out; omega) (.inr ⟨by have:=HY.out; omega,rfl⟩))
   go_wp2_with fail
   go_ret
   exact ⟨0,zs,rfl,hzl.out,HI.out.2.1,hfin.out,by omega,hwin,hgr⟩
  ·
   obtain rfl:k = n:=by omega
   have hfin:=Lib.hid (HI.out.done HX.out hk (by have:=HY.out; omega) (.inl rfl))
   go_wp2_with fail
   go_ret
   exact ⟨ov,zs,rfl,hzl.out,HI.out.2.1,hfin.out,by omega,hwin,hgr⟩
end Go.Proofs.YtgopgbfgbddggaaGreat
namespace Go.Proofs.YtgopgbfgbddggaaGreat
open Go.RowKit
set_option maxRecDepth 100000
def TakeIn (xs ys zs:List Nat) (m n k tk br:Nat):Prop :=
 zs.length = n∧Dg zs∧(∀ j,k≤j→nth zs j = nth xs j)∧U (xs.take k) + 4294967296 ^ k * (tk + br) = U (zs.take k) + m * U (ys.take k)∧tk≤4294967295∧br≤1
theorem TakeIn.step {xs ys zs:List Nat} {m n k tk br T z br':Nat} (h:TakeIn xs ys zs m n k tk br) (hk:k < n) (hT:tk + m * nth ys k = T) (hTb:T / 4294967296≤4294967295) (hz:nth xs k + 4294967296 * br' = z + T % 4294967296 + br) (hzb:z < 4294967296) (hbr:br'≤1) :
  TakeIn xs ys (zs.set k z) m n (k + 1) (T / 4294967296) br':=by
 obtain ⟨hl,hd,hzz,hU,ho,hb⟩:=h
 refine ⟨by simp [hl],hd.set hzb,fun j hj => by rw [nth_set32 (by omega),if_neg (by omega)]; exact hzz j (by omega),?_,hTb,hbr⟩
 rw [U_set_take (by omega),U_take_succ xs,U_take_succ ys,Nat.pow_succ]
 have:=Nat.div_add_mod T 4294967296
 generalize T / 4294967296 = q at *
 generalize T % 4294967296 = r at *
 generalize 4294967296 ^ k = P at *
 have e:P * (nth xs k + 4294967296 * br') = P * (z + r + br):=by rw [hz]
 have e2:P * (tk + m * nth ys k) = P * (4294967296 * q + r):=by rw [hT,this]
 grind
theorem take_prod {m y tk:Nat} (hm:m≤4294967295) (hy:y < 4294967296) (ht:tk≤4294967295):m * y≤18446744065119617025∧(tk + m * y) / 4294967296≤4294967295:=by
 have h:=Nat.mul_le_mul hm (show y≤4294967295 by omega)
 have h2:m * y≤18446744065119617025:=h
 generalize m * y = p at *
 omega
theorem wrap_u64 (x:Int):IntKind.u64.wrap x = x % 18446744073709551616:=by simp [IntKind.wrap,IntKind.bits,IntKind.signed]
theorem take_vals (d T br:Nat) (hd:d < 4294967296) (hT:T < 18446744073709551616) (hbr:br≤1):∃ z br':Nat,z < 4294967296∧br'≤1∧d + 4294967296 * br' = z + T % 4294967296 + br ∧
  IntKind.u64.wrap (IntKind.u64.wrap ((d:Int) - bits .and .u64 (T:Int) 4294967295) - (br:Int)) % 4294967296 = (z:Int) ∧
  IntKind.u64.wrap (IntKind.u64.wrap ((d:Int) - bits .and .u64 (T:Int) 4294967295) - (br:Int)) / 9223372036854775808 = (br':Int):=by
 rw [and_mask32 T hT,wrap_u64,wrap_u64]
 obtain ⟨t0,ht⟩:∃ t0,T % 4294967296 = t0:=⟨_,rfl⟩
 have h0:t0 < 4294967296:=by omega
 rw [ht]
 by_cases h:t0 + br≤d
 · exact ⟨d - t0 - br,0,by omega,by omega,by omega,by omega,by omega⟩
 · exact ⟨d + 4294967296 - t0 - br,1,by omega,by omega,by omega,by omega,by omega⟩
def nz (a:Nat):Bool:=a != 0
theorem nz_yes {a:Nat} (h:0 < a):nz a = true:=by simp [nz]; omega
theorem nz_no:nz 0 = false:=rfl
theorem take_ne (a b:Nat):((a:Int) + (b:Int) != 0) = nz (a + b):=by
 rcases Nat.eq_zero_or_pos (a + b) with h | h
 ·
  have h1:(a:Int) + (b:Int) = 0:=by omega
  rw [h,h1]; rfl
 ·
  have h1:¬ (a:Int) + (b:Int) = 0:=by omega
  rw [nz_yes h]
  exact bne_iff_ne.2 h1
theorem TakeIn.done {xs ys zs:List Nat} {m n tk br:Nat} (h:TakeIn xs ys zs m n n tk br) (hx:xs.length = n) (hy:ys.length≤n):U xs + 4294967296 ^ n * (tk + br) = U zs + m * U ys:=by
 obtain ⟨hl,hd,hz,hU,ho⟩:=h
 rwa [U_take_all zs _ (by omega),U_take_all xs _ (by omega),U_take_all ys _ (by omega)] at hU
def TakenOff (w:World) (g:Nat) (L:List Value) (xs ys:List Nat) (R:List Value) (m n:Nat) (e:Ending) (w':World):Prop :=
 ∃ T zs,e = .returned (.bool (nz T))∧zs.length = n∧Dg zs∧U xs + 4294967296 ^ n * T = U zs + m * U ys∧Win w' g 84 L zs R∧w.grownBy w' (some g)
set_option maxHeartbeats 4000000 in
theorem takeOff_any (g o:Nat) (L R:List Value) (xs ys:List Nat) (m n c n2 c2:Nat) (A2:Option Addr) (w:World) (hx:xs.length = n) (hy:ys.length = n2) (hL:L.length = o) (hw:Win w g 84 L xs R)
  (hr:Ra w g A2 ys) (hd:Dg xs) (hd2:Dg ys) (hn:n≤10000000) (hn2:n2≤n) (hc:n≤c) (hm:m≤4294967295) :
  Calls Tryz.prog 141 #[.slice (some ⟨g,o,none⟩) n c,.slice A2 n2 c2,.int .u64 ((m:Nat):Int)] w (TakenOff w g L xs ys R m n):=by
 have HX:=Lib.hid hx
 have HY:=Lib.hid hy
 have HL:=Lib.hid hL
 have hgl:=hw.lt
 clear hx hy hL
 go_enter Tryz.func141,Tryz.ntmps141
 go_wp2_with fail
 go_loopw [7,8,14] (fun tv bv iv wr => ∃ k tk br zs,tv = .int .u64 ((tk:Nat):Int)∧bv = .int .u64 ((br:Nat):Int)∧iv = .int .i64 ((k:Nat):Int)∧k≤n∧TakeIn xs ys zs m n k tk br∧Win wr g 84 L zs R∧w.grownBy wr (some g)) (fun _ _ iv _ => n - (intOf iv).toNat)
 case atStart => exact ⟨0,0,0,xs,rfl,rfl,rfl,by omega,⟨HX.out,hd,fun _ _ => rfl,by simp [U],by omega,by omega⟩,hw,World.grownBy.refl _ _⟩
 case round =>
  obtain ⟨k,tk,br,zs,rfl,rfl,rfl,hk,hin,hwin,hgr⟩:=hrel
  have HI:=Lib.hid hin
  have ht1:tk≤4294967295:=hin.2.2.2.2.1
  have hb1:br≤1:=hin.2.2.2.2.2
  have hzl:Hid (zs.length = n):=Lib.hid hin.1
  have hzk:Hid (k < n→nth zs k = nth xs k):=Lib.hid (fun _ => hin.2.2.1 k (Nat.le_refl k))
  have hxk:=hd.nth k
  have hyk:=hd2.nth k
  clear hin
  by_cases hkn:k < n
  ·
   have cz:=hwin.cell HL.out (k:=k) (by have:=hzl.out; omega)
   rw [hzk.out hkn] at cz
   have fz:=hwin.frozen (o + k)
   obtain ⟨hp1,hp2⟩:=take_prod hm hyk ht1
   obtain ⟨T,hT⟩:∃ T,tk + m * nth ys k = T:=⟨_,rfl⟩
   rw [hT] at hp2
   have hTb:T < 18446744073709551616:=by omega
   obtain ⟨z,br',hz,hbr,hzr,e1,e2⟩:=take_vals (nth xs k) T br hxk hTb hb1
   have hst:=Lib.hid (HI.out.step hkn hT hp2 hzr hz hbr)
   by_cases hk2:k < n2
   ·
    have hTi:(T:Int) = (tk:Int) + (m:Int) * (nth ys k:Int):=by rw [← hT]; simp
    have e3:((tk:Int) + (m:Int) * (nth ys k:Int)) / 4294967296 = ((T / 4294967296:Nat):Int):=by rw [← hTi]; omega
    rw [hTi] at e1 e2
    have E1:=Lib.hid e1
    have E2:=Lib.hid e2
    have E3:=Lib.hid e3
    clear e1 e2 e3 hTi hT hzr
    obtain ⟨b2,o2,hA2,_,cy⟩:=(wrote_ra hgr hr hgl).at_ (k:=k) (by have:=HY.out; omega)
    subst hA2
    go_wp2_with fail
    go_roundw
    case rel => exact ⟨k + 1,T / 4294967296,br',zs.set k z,by rw [E3.out],by rw [E2.out],by go_num,by omega,hst.out,hwin.put HL.out (by have:=hzl.out; omega) E1.out,wrote_set hgr _ _⟩
    case measure => simp [intOf]; omega
   ·
    have hy0:nth ys k = 0:=nth_out (by have:=HY.out; omega)
    obtain rfl:tk = T:=by rw [← hT,hy0]; simp
    have E1:=Lib.hid e1
    have E2:=Lib.hid e2
    clear e1 e2 hT hzr hy0
    go_wp2_with fail
    go_roundw
    case rel => exact ⟨k + 1,tk / 4294967296,br',zs.set k z,by go_num,by rw [E2.out],by go_num,by omega,hst.out,hwin.put HL.out (by have:=hzl.out; omega) E1.out,wrote_set hgr _ _⟩
    case measure => simp [intOf]; omega
  ·
   obtain rfl:k = n:=by omega
   have hfin:=Lib.hid (HI.out.done HX.out (by have:=HY.out; omega))
   go_wp2_with fail
   go_ret
   exact ⟨tk + br,zs,congrArg (fun b => Ending.returned (.bool b)) (take_ne tk br),hzl.out,HI.out.2.1,hfin.out,hwin,hgr⟩
end Go.Proofs.YtgopgbfgbddggaaGreat
namespace Go.Proofs.YtgopgbfgbddggaaGreat
open Go.RowKit Go.Shelf
set_option maxRecDepth 100000
attribute [local go_sem] Oper.semAt_some
theorem compareInt_eq (a b:Nat):Lib.compareInt (a:Int) (b:Int) = cmpI a b:=by
 unfold Lib.compareInt cmpI
 split <;> split <;> first | rfl | omega | (split <;> first | rfl | omega)
theorem isNaN32 (x:Int) (w:World):Calls Tryz.prog 98 #[.int .u32 x] w fun e w' => e = .returned (.bool false)∧w = w':=by
 go_enter Tryz.func98,Tryz.ntmps98
 go_wp2
 go_ret
 exact ⟨rfl,rfl⟩
set_option maxHeartbeats 1000000 in
theorem compare32 (a b:Nat) (w:World) (ha:a < 4294967296) (hb:b < 4294967296):Calls Tryz.prog 72 #[.int .u32 (a:Int),.int .u32 (b:Int)] w fun e w' => e = .returned (.int .i64 (cmpI a b))∧w = w':=by
 obtain ⟨z,hz⟩:∃ z,cmpI a b = z:=⟨_,rfl⟩
 rw [hz]
 have h3:(a < b∧z = -1)∨(b < a∧¬ a < b∧z = 1)∨(a = b∧z = 0):=by
  rcases Nat.lt_trichotomy a b with h | h | h
  · exact .inl ⟨h,by rw [← hz,cmpI_lt h]⟩
  · exact .inr (.inr ⟨h,by rw [← hz,cmpI_eq h]⟩)
  · exact .inr (.inl ⟨h,by omega,by rw [← hz,cmpI_gt h]⟩)
 clear hz
 rcases h3 with ⟨h1,rfl⟩ | ⟨h1,h2,rfl⟩ | ⟨rfl,rfl⟩
 all_goals
  go_enter Tryz.func72,Tryz.ntmps72
  go_wp2_with (go_at_call 98; refine (isNaN32 _ _).mono ?_; rintro e w' ⟨rfl,rfl⟩)
  go_ret
  exact ⟨rfl,rfl⟩
def IsBits (a b:Nat):Prop:=a < 2 ^ b∧(b = 0∨2 ^ (b - 1)≤a)
theorem bits_len {d low k:Nat} (hd:d < 4294967296) (h0:d≠0) (hlow:low < 4294967296 ^ k):IsBits (low + 4294967296 ^ k * d) (k * 32 + Lib.bitLen d):=by
 obtain ⟨h1,h2,h3⟩:=Lib.bitLenAux_bounds 64 d (Nat.lt_trans hd (by decide)) h0
 have e:Lib.bitLenAux 64 d = Lib.bitLen d:=rfl
 rw [e] at h1 h2 h3
 generalize Lib.bitLen d = l at *
 have hp:(4294967296:Nat) ^ k = 2 ^ (k * 32):=by rw [show (4294967296:Nat) = 2 ^ 32 by decide,← Nat.pow_mul,Nat.mul_comm]
 rw [hp] at hlow ⊢
 refine ⟨?_,.inr ?_⟩
 ·
  rw [Nat.pow_add]
  have:2 ^ (k * 32) * (d + 1)≤2 ^ (k * 32) * 2 ^ l:=Nat.mul_le_mul_left _ h3
  rw [Nat.mul_add] at this
  omega
 ·
  rw [show k * 32 + l - 1 = k * 32 + (l - 1) by omega,Nat.pow_add]
  have:2 ^ (k * 32) * 2 ^ (l - 1)≤2 ^ (k * 32) * d:=Nat.mul_le_mul_left _ h2
  omega
set_option maxHeartbeats 1000000 in
theorem natBits_any (A:Option Addr) (xs:List Nat) (n c:Nat) (w:World) (hl:xs.length = n) (hr:Ra w w.heap.size A xs) (hd:Dg xs) (hn:n≤10000000) (hc:n≤c) :
  Calls Tryz.prog 150 #[.slice A n c] w fun e w' => ∃ b:Nat,e = .returned (.int .i64 (b:Int))∧IsBits (U xs) b∧w = w':=by
 have hcan:=cl_can hd
 have hU:=cl_U xs
 have hcl:=cl_le xs
 go_enter Tryz.func150,Tryz.ntmps150
 go_wp2_with fail
 refine (shorten_cl A xs n c w hl hr hd hn hc).mono ?_
 rintro e w' ⟨rfl,rfl⟩
 obtain ⟨m,hm⟩:∃ m,cl xs = m:=⟨_,rfl⟩
 rw [hm] at hcan hU hcl ⊢
 have hmn:m≤n:=by omega
 have HC:=Lib.hid hcan
 have HL:=Lib.hid hl
 clear hm hcan hl
 by_cases h0:0 < m
 ·
  obtain ⟨k,rfl⟩:∃ k,m = k + 1:=⟨m - 1,by omega⟩
  obtain ⟨b,o,hA,_,cx⟩:=hr.at_ (k:=k) (by omega)
  subst hA
  have hdk:=hd.nth k
  have hb:IsBits (U xs) (k * 32 + Lib.bitLen (nth xs k)):=by
   rw [← hU,U_take_succ]
   refine bits_len hdk ?_ ?_
   ·
    have h1:=HC.out.2 (by intro h; have h2:=congrArg List.length h; rw [List.length_take,List.length_nil] at h2; have:=HL.out; omega)
    have h2:(xs.take (k + 1)).length = k + 1:=by simp; omega
    rw [h2,nth_take (by omega)] at h1
    simpa using h1
   ·
    have h1:=U_lt (hd.take k)
    rwa [show (xs.take k).length = k by simp; omega] at h1
  have HB:=Lib.hid hb
  have hbl:Lib.bitLen (nth xs k)≤32:=Lib.bitLen_le _ 32 (by omega) (Nat.lt_of_lt_of_le hdk (by decide))
  obtain ⟨l,hll⟩:∃ l,Lib.bitLen (nth xs k) = l:=⟨_,rfl⟩
  rw [hll] at HB hbl
  have HLL:=Lib.hid hll
  clear hb hll hU
  go_wp2_with fail
  refine (Tryz.bits_Len32 ((nth xs k:Nat):Int) _ (by omega) (by omega)).mono ?_
  rintro e w' ⟨rfl,rfl⟩
  rw [Int.toNat_natCast,HLL.out]
  go_wp2_with fail
  go_ret
  exact ⟨k * 32 + l,by go_num,HB.out,rfl⟩
 ·
  obtain rfl:m = 0:=by omega
  have h1:U xs = 0:=by rw [← hU]; simp [U]
  have HU:=Lib.hid h1
  clear h1 hU
  go_wp2_with fail
  go_ret
  exact ⟨0,rfl,⟨by rw [HU.out]; decide,.inl rfl⟩,rfl⟩
theorem cmp_at {xs ys:List Nat} {m p:Nat} (hx:Dg xs) (hy:Dg ys) (hlx:xs.length = m) (hly:ys.length = m) (hp:p < m) (he:∀ j,p < j→nth xs j = nth ys j) (hne:nth xs p≠nth ys p):cmpI (U xs) (U ys) = cmpI (nth xs p) (nth ys p):=by
 have hdrop:xs.drop (p + 1) = ys.drop (p + 1):=by
  apply List.ext_getElem
  · simp [hlx,hly]
  ·
   intro i h1 h2
   have:=he (p + 1 + i) (by omega)
   simp only [List.length_drop] at h1 h2
   rw [nth_in (by omega),nth_in (by omega)] at this
   simpa using this
 have split:∀ zs:List Nat,zs.length = m→U zs = U (zs.take p) + 4294967296 ^ p * nth zs p + 4294967296 ^ (p + 1) * U (zs.drop (p + 1)):=fun zs hl => by
  have:=U_append (zs.take (p + 1)) (zs.drop (p + 1))
  rw [List.take_append_drop,List.length_take,Nat.min_eq_left (by omega),U_take_succ] at this
  exact this
 have h1:=U_lt (hx.take p)
 have h2:=U_lt (hy.take p)
 rw [show (xs.take p).length = p by simp; omega] at h1
 rw [show (ys.take p).length = p by simp; omega] at h2
 rw [split xs hlx,split ys hly,hdrop]
 generalize 4294967296 ^ (p + 1) * U (ys.drop (p + 1)) = R
 generalize U (xs.take p) = a at *
 generalize U (ys.take p) = b at *
 generalize 4294967296 ^ p = P at *
 rcases Nat.lt_or_gt_of_ne hne with h | h
 ·
  rw [cmpI_lt h]
  have:P * (nth xs p + 1)≤P * nth ys p:=Nat.mul_le_mul_left _ h
  rw [Nat.mul_add] at this
  exact cmpI_lt (by omega)
 ·
  rw [cmpI_gt h]
  have:P * (nth ys p + 1)≤P * nth xs p:=Nat.mul_le_mul_left _ h
  rw [Nat.mul_add] at this
  exact cmpI_gt (by omega)
theorem cmp_len {xs ys:List Nat} (hx:Cn xs) (hy:Cn ys) (h:xs.length < ys.length):U xs < U ys:=by
 have h1:=U_lt hx.1
 have h2:=U_ge hy (by rintro rfl; simp at h)
 have h3:=Nat.pow_le_pow_right (show 0 < 4294967296 by omega) (show xs.length≤ys.length - 1 by omega)
 omega
end Go.Proofs.YtgopgbfgbddggaaGreat
namespace Go.Proofs.YtgopgbfgbddggaaGreat
open Go.RowKit Go.Shelf
set_option maxRecDepth 100000
attribute [local go_sem] Oper.semAt_some
structure CmpMem (w:World) (s:Value) (W:World):Prop where
 below:Below w.heap.size w W
 two:Blk W w.heap.size 39 #[s]
 res:Blk W (w.heap.size + 1) 3 #[.int .i64 0]
set_option maxHeartbeats 4000000 in
theorem natCmp_any (A1 A2:Option Addr) (xs ys:List Nat) (n1 c1 n2 c2:Nat) (w:World) (hl1:xs.length = n1) (hl2:ys.length = n2) (hr1:Ra w w.heap.size A1 xs) (hr2:Ra w w.heap.size A2 ys)
  (hd1:Dg xs) (hd2:Dg ys) (hn1:n1≤1000000) (hn2:n2≤1000000) (hc1:n1≤c1) (hc2:n2≤c2) :
  Calls Tryz.prog 44 #[.slice A1 n1 c1,.slice A2 n2 c2] w fun e w' => e = .returned (.int .i64 (cmpI (U xs) (U ys)))∧Below w.heap.size w w':=by
 obtain ⟨z,hz⟩:∃ z,cmpI (U xs) (U ys) = z:=⟨_,rfl⟩
 rw [hz]
 have HZ:=Lib.hid hz
 have hk1:=cl_can hd1
 have hk2:=cl_can hd2
 have hU1:=cl_U xs
 have hU2:=cl_U ys
 have hcl1:=cl_le xs
 have hcl2:=cl_le ys
 have sh1:=fun wz (h:Below w.heap.size w wz) => shorten_cl A1 xs n1 c1 wz hl1 ((hr1.below h (Nat.le_refl _)).more h.size) hd1 (by omega) hc1
 have sh2:=fun wz (h:Below w.heap.size w wz) => shorten_cl A2 ys n2 c2 wz hl2 ((hr2.below h (Nat.le_refl _)).more h.size) hd2 (by omega) hc2
 obtain ⟨m1,hm1⟩:∃ m,cl xs = m:=⟨_,rfl⟩
 obtain ⟨m2,hm2⟩:∃ m,cl ys = m:=⟨_,rfl⟩
 rw [hm1] at hk1 hU1 hcl1
 rw [hm2] at hk2 hU2 hcl2
 simp only [hm1] at sh1
 simp only [hm2] at sh2
 have hmn1:m1≤n1:=by omega
 have hmn2:m2≤n2:=by omega
 have HL1:Hid ((xs.take m1).length = m1):=Lib.hid (by simp; omega)
 have HL2:Hid ((ys.take m2).length = m2):=Lib.hid (by simp; omega)
 have HZ2:Hid (cmpI (U (xs.take m1)) (U (ys.take m2)) = z):=Lib.hid (by rw [hU1,hU2]; exact HZ.out)
 have HC1:=Lib.hid hk1
 have HC2:=Lib.hid hk2
 clear hz HZ hk1 hk2 hU1 hU2 hl1 hl2 hm1 hm2 hcl1 hcl2
 refine calls_of_leave Tryz.func44 rfl ?_
 simp only [Tryz.ntmps44,List.size_toArray,List.length_cons,List.length_nil,Nat.reduceAdd,Nat.reduceSub,Array.replicate_succ,Array.replicate_zero,List.push_toArray,List.append_toArray,List.nil_append,List.cons_append]
 have hB0:Below w.heap.size w ((w.alloc (.cells #[.slice A2 n2 c2] 39)).alloc (.cells #[.int .i64 0] 3)).drew:=(((Below.refl _ w).alloc (Nat.le_refl _) _).alloc (by simp) _).drew
 go_upto_region 1 with (fail)
 go_cut [0] from 9 to 12 (fun a wx => a = .slice A1 m1 c1∧CmpMem w (.slice A2 m2 c2) wx)
 case first =>
  go_region_with (first
   | (go_at_call 69; (with_reducible refine (sh1 _ (by assumption)).mono ?_); rintro e w' ⟨rfl,rfl⟩)
   | (go_at_call 69; (with_reducible refine (sh2 _ (by assumption)).mono ?_); rintro e w' ⟨rfl,rfl⟩))
  all_goals
   go_wp2_with fail
   go_meet
   have hbk:=Blk.new (w.alloc (.cells #[.slice A2 m2 c2] 39)) 3 #[.int .i64 0]
   rw [World.size_alloc] at hbk
   exact ⟨rfl,(((Below.refl _ w).alloc (Nat.le_refl _) _).alloc (by simp) _).drew,(Blk.new w 39 #[.slice A2 m2 c2]).alloc _,hbk⟩
 case rest =>
  obtain ⟨rfl,hm⟩:=hcut
  have c2c:=hm.two.cell 0
  have f2c:=hm.two.frozen 0
  have HM:=Lib.hid hm
  clear hm
  have cr:=HM.out.res.cell 0
  have fr:=HM.out.res.frozen 0
  have hci:=compareInt_eq m1 m2
  rcases Nat.lt_trichotomy m1 m2 with hlt | heq | hgt
  ·
   have hz:z = -1:=by rw [← HZ2.out,cmpI_lt (cmp_len HC1.out HC2.out (by rw [HL1.out,HL2.out]; exact hlt))]
   rw [cmpI_lt hlt] at hci
   subst hz
   have HCI:=Lib.hid hci
   clear hci
   go_wp2_with fail
   refine (Tryz.cmp_Compare_int (m1:Int) (m2:Int) _).mono ?_
   rintro e w' ⟨rfl,rfl⟩
   rw [HCI.out]
   go_wp2_with fail
   exact leave_plain (v:=.int .i64 (-1)) (by simp [results,Tryz.results44,go_sem,cr,fr]) ⟨rfl,HM.out.below.setCell (by simp) _⟩
  ·
   subst heq
   rw [cmpI_eq rfl] at hci
   have HCI:=Lib.hid hci
   clear hci
   go_wp2_with fail
   refine (Tryz.cmp_Compare_int (m1:Int) (m1:Int) _).mono ?_
   rintro e W0 ⟨rfl,rfl⟩
   rw [HCI.out]
   go_wp2_with fail
   refine (backw_calls A1 m1 c1 _).mono ?_
   rintro e w' ⟨rfl,rfl⟩
   have hm:=HM.out
   have hs0:=hm.res.lt
   have hBa:Below w.heap.size w (W0.alloc (.cells #[.slice A1 m1 c1] 39)):=hm.below.alloc (by omega) _
   have hrA:Ra (W0.alloc (.cells #[.slice A1 m1 c1] 39)) w.heap.size A1 (xs.take m1):=(hr1.take m1).below hBa (Nat.le_refl _)
   have hgo:=backw_goes Fence.wide 4 trivial rfl (by omega) W0.heap.size A1 (xs.take m1) m1 c1 _ HL1.out (hrA.more (by simp; omega)) (by omega) (by omega) ((Blk.new W0 39 #[.slice A1 m1 c1]).cell 0)
   have hm2:=hm.two.alloc (.cells #[.slice A1 m1 c1] 39)
   have hm3:=hm.res.alloc (.cells #[.slice A1 m1 c1] 39)
   have hI0:=And.intro (And.intro (hm2.cell 0) (And.intro (hm3.cell 0) (And.intro (hm3.frozen 0) (fun (j:Nat) (hj:m1 - 0≤j) => (show nth (xs.take m1) j = nth (ys.take m1) j by rw [nth_out (by rw [HL1.out]; omega),nth_out (by rw [HL2.out]; omega)]))))) hBa
   have HI0:=Lib.hid hI0
   clear hI0 hm2 hm3 hm cr fr c2c f2c
   go_wp2_with fail
   refine (wpIn_wide (n:=5)).1 ?_
   refine wpIn_rangeFunc_goes rfl (by omega) (gf:=97) (lb:=#[.pointer (some ⟨W0.heap.size,0,none⟩)]) rfl trivial (enters_of Tryz.func97 (by kernel_rfl) rfl)
    hgo (bkeep_lt HL1.out (hrA.more (by simp; omega)) (by simp)) (Below.refl _ _) (fun _ => rfl)
    (fun k W => (W.cell? ⟨w.heap.size,0,none⟩ = some (.slice A2 m1 c2)∧W.cell? ⟨w.heap.size + 1,0,none⟩ = some (.int .i64 0)∧W.frozen? ⟨w.heap.size + 1,0,none⟩ = false∧∀ j,m1 - k≤j→nth (xs.take m1) j = nth (ys.take m1) j)∧Below w.heap.size w W)
    (fun c k W => (c = .ret∧W.cell? ⟨w.heap.size + 1,0,none⟩ = some (.int .i64 z))∧Below w.heap.size w W)
    (OwnFrom.and (Own.from (fun s X Y row hs hg hr => ⟨cell_kept hs.1 hg hr,cell_kept hs.2.1 hg hr,(frozen_kept hs.2.1 hg hr).trans hs.2.2.1,hs.2.2.2⟩) _) (ownFrom_below (Nat.le_refl _) (by simp; omega)))
    (fun c => OwnFrom.and (Own.from (fun s X Y row hs hg hr => ⟨hs.1,cell_kept hs.2 hg hr⟩) _) (ownFrom_below (Nat.le_refl _) (by simp; omega)))
    HI0.out ?round ?done ?stop
   case round =>
    intro l k W hk _
    simp only [benc]
    gi_wp2
    refine ⟨trivial,?_⟩
    rintro W ⟨⟨h2,h3,h4,h5⟩,hB⟩
    obtain ⟨p,hp⟩:∃ p,m1 - 1 - k = p:=⟨_,rfl⟩
    have hpm:p < m1:=by omega
    rw [hp]
    have HP:=Lib.hid hp
    obtain ⟨b2,o2,hA2,_,cy⟩:=((hr2.take m1).below hB (Nat.le_refl _)).at_ (k:=p) (by rw [HL2.out]; exact hpm)
    subst hA2
    have hxp:=HC1.out.1.nth p
    have hyp:=HC2.out.1.nth p
    have H5:=Lib.hid h5
    clear h5 hp
    gi_wp2_with fail
    refine ⟨trivial,(CallsIn.inRound l (callsIn_wide.2 (compare32 (nth (xs.take m1) p) (nth (ys.take m1) p) _ hxp hyp))).mono ?_⟩
    rintro e W2 ⟨rfl,rfl⟩
    by_cases heq:nth (xs.take m1) p = nth (ys.take m1) p
    ·
     rw [cmpI_eq heq]
     have HE:=Lib.hid heq
     clear heq
     gi_wp2
     refine ⟨KeepsFrom.refl _ _,Same.refl _ _,⟨h2,h3,h4,fun j hj => ?_⟩,hB⟩
     rcases Nat.lt_or_ge p j with h | h
     · exact H5.out j (by have:=HP.out; omega)
     · rw [show j = p by have:=HP.out; omega]; exact HE.out
    ·
     have hz:cmpI (nth (xs.take m1) p) (nth (ys.take m1) p) = z:=by rw [← HZ2.out,cmp_at HC1.out.1 HC2.out.1 HL1.out HL2.out hpm (fun j hj => H5.out j (by have:=HP.out; omega)) heq]
     have hz0:(z == 0) = false∧(z != 0) = true:=by
      rcases Nat.lt_or_gt_of_ne heq with h | h
      · rw [cmpI_lt h] at hz; subst hz; exact ⟨rfl,rfl⟩
      · rw [cmpI_gt h] at hz; subst hz; exact ⟨rfl,rfl⟩
     have hzn:¬ z = 0:=by intro h; rw [h] at hz0; simp at hz0
     obtain ⟨hz1,hz2⟩:=hz0
     rw [hz]
     have HZZ:=Lib.hid hz
     clear hz heq
     gi_wp2
     exact ⟨(KeepsOthers.setCell _ _ _).from _,⟨rfl,World.cell?_setCell_same' _ _ _ (by rw [h3]; rfl)⟩,hB.setCell (by simp) _⟩
   case done =>
    rintro D W hD ⟨⟨h2,h3,h4,h5⟩,hB⟩ hK
    have hz:z = 0:=by
     rw [← HZ2.out]
     refine cmpI_eq (congrArg U (List.ext_getElem (by rw [HL1.out,HL2.out]) fun i h1 h2 => ?_))
     have:=h5 i (by omega)
     rwa [nth_in h1,nth_in h2] at this
    subst hz
    have hD2:w.heap.size≤D:=Nat.le_trans hBa.size hD
    have hK':=(KeepsOthers.setCell W ⟨w.heap.size + 1,0,none⟩ (.int .i64 0)).same D _ hK rfl
    have h3':=World.cell?_setCell_same' W ⟨w.heap.size + 1,0,none⟩ (.int .i64 0) (by rw [h3]; rfl)
    go_wp2_with fail
    exact leave_mark (v:=.int .i64 0) hK' (by simp [results,Tryz.results44,go_sem,mark_cell hK' h3']) ⟨rfl,mark_below (hB.setCell (by simp) _) hK' hD2⟩
   case stop =>
    rintro D c k W hD _ ⟨⟨rfl,h3⟩,hB⟩ hK
    have hD2:w.heap.size≤D:=Nat.le_trans hBa.size hD
    refine wpIn_wide.2 ?_
    go_wp2_with fail
    exact leave_mark (v:=.int .i64 z) hK (by simp [results,Tryz.results44,go_sem,mark_cell hK h3]) ⟨rfl,mark_below hB hK hD2⟩
  ·
   have hz:z = 1:=by rw [← HZ2.out,cmpI_gt (cmp_len HC2.out HC1.out (by rw [HL1.out,HL2.out]; exact hgt))]
   rw [cmpI_gt hgt] at hci
   subst hz
   have HCI:=Lib.hid hci
   clear hci
   go_wp2_with fail
   refine (Tryz.cmp_Compare_int (m1:Int) (m2:Int) _).mono ?_
   rintro e w' ⟨rfl,rfl⟩
   rw [HCI.out]
   go_wp2_with fail
   exact leave_plain (v:=.int .i64 1) (by simp [results,Tryz.results44,go_sem,cr,fr]) ⟨rfl,HM.out.below.setCell (by simp) _⟩
end Go.Proofs.YtgopgbfgbddggaaGreat
namespace Go.Proofs.YtgopgbfgbddggaaGreat
open Go.RowKit
set_option maxRecDepth 100000
theorem zeroCells_u32s (k:Nat):Builtin.zeroCells (Value.int .u32 0).cells k = (u32s (List.replicate k 0)).toArray:=by
 apply Array.ext
 · simp [Builtin.zeroCells,u32s,Value.cells]
 ·
  intro i h1 h2
  simp [Builtin.zeroCells,u32s,Value.cells,Nat.mod_one]
section
variable {P:Program} (w:World)
theorem run_append_room_zeros32 (t tn ty e:TypeId) (i:TypeInfo) (ht:P.underlying t = some (.slice e)) (htn:P.underlying tn = some (.int .i64)) (hi:P.info? e = some i) (hz:i.zero = some (.int .u32 0)) (hsz:i.size = 1) (hby:i.bytes = 4)
  (g n cap k:Nat) (cur:Array Value) (hg:w.heap[g]? = some (.cells cur e (0,0))) (hk:0 < k) (hb:n + k≤10000000) (hroom:n + k≤cap) (hfit:n + k≤cur.size) :
  (Builtin.append_ #[t,tn] ty #[.slice (some ⟨g,0,none⟩) n cap,.int .i64 (k:Int)]).run P w =
   .ok (.slice (some ⟨g,0,none⟩) (n + k) cap) (w.setRow g (cur.toList.take n ++ u32s (List.replicate k 0) ++ cur.toList.drop (n + k)).toArray):=by
 have hst:=run_storeCells_at P g n e (u32s (List.replicate k 0)) 0 cur w hg (by simp [u32s]; omega) (u32s_one _)
 have hlk:(u32s (List.replicate k 0)).length = k:=by simp [u32s]
 simp only [Nat.add_zero,hlk] at hst
 have hw:IntKind.i64.wrap (k:Int) = k:=by rw [IntKind.wrap_i64]; omega
 have hneg:¬ ((k:Int) < 0):=by omega
 have hk0:k≠0:=by omega
 have h48i:¬ (281474976710656 < (k:Int) * 4):=by omega
 have hzc:=zeroCells_u32s k
 simp only [Value.cells] at hzc
 simp [Builtin.append_,run_underlying ht,run_underlying htn,sizeOf,typeInfo,zeroValue,hi,hz,asInt,asIntOf,hw,hneg,hsz,hby,hk0,h48i,hroom,Addr.add_lit,Value.cells,hzc,hst]
theorem run_append_zeros32 (base:Nat) (t tn ty e:TypeId) (ht:P.underlying t = some (.slice e)) (htn:P.underlying tn = some (.int .i64)) (hinfo:(P.info? e).map (fun i => (i.zero,i.size,i.bytes)) = some (some (.int .u32 0),1,4))
  (v:Value) (n k:Nat) (xs:List Nat) (hown:w.ownsRow base e 1 v n (u32s xs)) (hk:0 < k) (hb:n + k≤10000000) (hbase:base≤w.heap.size) :
  ∃ v' w',(Builtin.append_ #[t,tn] ty #[v,.int .i64 (k:Int)]).run P w = .ok v' w'∧w'.ownsRow base e 1 v' (n + k) (u32s (xs ++ List.replicate k 0))∧w.grownBy w' v.ownBlock:=by
 obtain ⟨i,hi,hz,hsz,hby⟩:=info_parts hinfo
 have hlk:(u32s (List.replicate k 0)).length = k:=by simp [u32s]
 have hlen:(u32s (xs ++ List.replicate k 0)).length = (n + k) * 1:=by have:=hown.1; rw [u32s_append,List.length_append,hlk]; omega
 have hzs:(Value.int .u32 0).cells.size = 1:=rfl
 have grown:∀ (old:Nat),old < n + k→∀ (row:Option Nat),
   (w.drew.alloc (.cells ((u32s xs).toArray ++ Builtin.zeroCells (Value.int .u32 0).cells k ++ Builtin.zeroCells (Value.int .u32 0).cells (grownCap w (n + k) old e - (n + k))) e)).ownsRow base e 1
    (.slice (some ⟨w.heap.size,0,none⟩) (n + k) (grownCap w (n + k) old e)) (n + k) (u32s (xs ++ List.replicate k 0)) ∧
   w.grownBy (w.drew.alloc (.cells ((u32s xs).toArray ++ Builtin.zeroCells (Value.int .u32 0).cells k ++ Builtin.zeroCells (Value.int .u32 0).cells (grownCap w (n + k) old e - (n + k))) e)) row:=by
  intro old ho row
  have hge:=grownCap_ge w (n + k) old e
  have hcm:grownCap w (n + k) old e≤maxLen:=grownCap_le_maxLen w (n + k) old e (by unfold maxLen; omega)
  refine ⟨⟨hlen,.inr ⟨w.heap.size,_,_,rfl,hbase,heap_alloc_new w.drew _,hge,hcm,?_,?_⟩⟩,⟨rfl,rfl,rfl,by simp,fun j hj _ => Below.heap_alloc w.drew _ j hj⟩⟩
  ·
   have:=hown.1
   simp only [Array.size_append,List.size_toArray,size_zeroCells,hzs]
   omega
  ·
   rw [u32s_append,zeroCells_u32s k]
   have h1:((u32s xs).toArray ++ (u32s (List.replicate k 0)).toArray ++ Builtin.zeroCells (Value.int .u32 0).cells (grownCap w (n + k) old e - (n + k))).toList = (u32s xs ++ u32s (List.replicate k 0)) ++ (Builtin.zeroCells (Value.int .u32 0).cells (grownCap w (n + k) old e - (n + k))).toList:=by simp
   rw [h1,← u32s_append,← hlen]
   exact List.take_left
 rcases hown.2 with ⟨rfl,rfl⟩ | ⟨g,cap,cur,rfl,hbg,hg,hnc,hcm,hcs,htake⟩
 ·
  have hx:xs = []:=by have:=hown.1; rw [u32s_length] at this; exact List.eq_nil_of_length_eq_zero (by omega)
  subst hx
  have hr:=Lib.run_append_nil_zeros (P:=P) w t tn ty e i (.int .u32 0) .i64 .i64 ht htn hi hz k hk (by omega) (by omega) (by rw [hby]; omega)
  have hgr:=grown 0 (by omega) (Value.ownBlock (.slice none 0 0))
  simp only [Nat.zero_add,u32s,List.map_nil,Array.empty_append] at hgr hr ⊢
  exact ⟨_,_,hr,hgr.1,hgr.2⟩
 ·
  by_cases hroom:n + k≤cap
  ·
   have hr:=run_append_room_zeros32 (P:=P) w t tn ty e i ht htn hi hz hsz hby g n cap k cur hg hk hb hroom (by omega)
   refine ⟨_,_,hr,⟨hlen,.inr ⟨g,cap,_,rfl,hbg,setRow_heap w g cur _ e _ hg,hroom,hcm,?_,?_⟩⟩,⟨rfl,rfl,rfl,by simp,fun j _ hj => setRow_other w g j _ (fun e => hj (by simp [Value.ownBlock,e]))⟩⟩
   ·
    simp only [List.size_toArray,List.length_append,List.length_take,List.length_drop,Array.length_toList,hlk]
    omega
   ·
    simp only [Nat.mul_one] at htake ⊢
    rw [htake,u32s_append]
    have h2:n + k = (u32s xs ++ u32s (List.replicate k 0)).length:=by rw [← u32s_append]; omega
    conv => lhs; rw [h2]
    exact List.take_left
  ·
   have holds:∀ j u,(u32s xs)[j]? = some u→w.drew.cell? ((⟨g,0,none⟩:Addr).add j) = some u:=World.ownsRow.cells (g:=g) hown rfl
   have hf:=run_firstCells_some (P:=P) w.drew i.size n ⟨g,0,none⟩ n cap (u32s xs) (by rw [hsz]; exact hown.1) holds
   have hr:=Lib.run_append_grow_zeros (P:=P) w t tn ty e i (.int .u32 0) .i64 .i64 ht htn hi hz (some ⟨g,0,none⟩) n cap (u32s xs) hf k hk (by omega) (by omega) (by omega) (by rw [hby]; omega) (growslice_fits (by omega) (by rw [hby]; omega))
   have hgr:=grown cap (by omega) (Value.ownBlock (.slice (some ⟨g,0,none⟩) n cap))
   exact ⟨_,_,hr,hgr.1,hgr.2⟩
theorem wpList_append_zeros32 {ops:Array Oper} {rest:List Oper} {o:Oper} {a:Act} {Q:Exit→Act→World→Prop} (hgd:o.guard = none) (s x:Operand) (t tn:TypeId)
  (ho:o.op = .call { callee:=.builtin .append,args:=#[s,x],argTypes:=#[t,tn] })
  (base:Nat) (e:TypeId) (ht:P.underlying t = some (.slice e)) (htn:P.underlying tn = some (.int .i64)) (hinfo:(P.info? e).map (fun i => (i.zero,i.size,i.bytes)) = some (some (.int .u32 0),1,4))
  (v:Value) (n k:Nat) (xs:List Nat) (hs:a.eval s = v) (hown:w.ownsRow base e 1 v n (u32s xs)) (z:Int) (hzk:z = (k:Int)) (hx:a.eval x = .int .i64 z) (hk:0 < k) (hb:n + k≤10000000) (hbase:base≤w.heap.size)
  (h:∀ A' n' c' w',Hid (n' = n + k)→n'≤c'→Hid (w'.ownsRow base e 1 (.slice A' n' c') n' (u32s (xs ++ List.replicate k 0)))→w.grownBy w' v.ownBlock→wpList P ops Q rest (a.put o.dst (.slice A' n' c')) w') :
  wpList P ops Q (o :: rest) a w:=by
 subst hzk
 refine wpList_plain hgd fun K hK => ?_
 obtain ⟨v',w',hrun,h2,h3⟩:=run_append_zeros32 (P:=P) w base t tn o.type e ht htn hinfo v n k xs hown hk hb hbase
 unfold Oper.wp execOp
 simp only [ho,resolve,invoke,builtin,Sem.run_bind,Sem.run_pure,Result.andThen_ok,List.map_toArray,List.map_cons,List.map_nil,hs,hx,hrun]
 obtain ⟨A',c',rfl,hc'⟩:=ownsRow_form w' h2
 exact hK _ _ (h A' _ c' w' rfl hc' h2 h3)
end
end Go.Proofs.YtgopgbfgbddggaaGreat
