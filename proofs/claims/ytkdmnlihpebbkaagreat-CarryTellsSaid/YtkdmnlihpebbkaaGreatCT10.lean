import Derived.Test.YtkdmnlihpebbkaaGreatCT9
import Derived.Lib.BufferOwn
import Derived.RangeFuncKeeps
import Derived.Lib.ItoaNum
import Derived.Lib.AppendZeros
import Derived.Lib.AppendZerosOnto
import Derived.Deep.QuietTactic
import Derived.Lib.AppendStr
import Derived.Lib.ItoaMem
import Derived.Lib.AppendIntMem
import Derived.Lib.ConvBytes
import Derived.Lib.AtoiErrMem
import Derived.Lib.ParseIntB
set_option linter.all false
set_option maxHeartbeats 4000000
namespace Go.Proofs.YtkdmnlihpebbkaaGreat
section
open Go.RowKit
set_option maxRecDepth 100000
def Win (w:World) (g:Nat) (t:TypeId) (L:List Value) (xs:List Nat) (R:List Value):Prop:=Blk w g t (L ++ u32s xs ++ R).toArray
theorem Win.lt {w:World} {g:Nat} {t:TypeId} {L R:List Value} {xs:List Nat} (h:Win w g t L xs R):g < w.heap.size:=Blk.lt h
theorem Win.cell {w:World} {g:Nat} {t:TypeId} {L R:List Value} {xs:List Nat} (h:Win w g t L xs R) {o:Nat} (ho:L.length = o) {k:Nat} (hk:k < xs.length) :
  w.cell? ⟨g,o + k,none⟩ = some (.int .u32 ((nth xs k:Nat):Int)):=by
 rw [Blk.cell h];have e:=u32s_get hk;have hl:=u32s_length xs;simp only [List.getElem?_toArray,List.append_assoc];rw [List.getElem?_append_right (by omega),List.getElem?_append_left (by omega),show o + k - L.length = k by omega,e]
theorem Win.frozen {w:World} {g:Nat} {t:TypeId} {L R:List Value} {xs:List Nat} (h:Win w g t L xs R) (i:Nat):w.frozen? ⟨g,i,none⟩ = false:=Blk.frozen h i
theorem Win.set {w:World} {g:Nat} {t:TypeId} {L R:List Value} {xs:List Nat} (h:Win w g t L xs R) {o:Nat} (ho:L.length = o) {k:Nat} (hk:k < xs.length) (d:Nat) :
  Win (w.setCell ⟨g,o + k,none⟩ (.int .u32 (d:Int))) g t L (xs.set k d) R:=by
 have:=Blk.set_ h (o + k) (.int .u32 (d:Int))
 have e:(L ++ u32s xs ++ R).toArray.setIfInBounds (o + k) (.int .u32 (d:Int)) = (L ++ u32s (xs.set k d) ++ R).toArray:=by
  have hl:=u32s_length xs;simp only [List.setIfInBounds_toArray,List.append_assoc];rw [List.set_append_right _ _ (by omega),List.set_append_left _ _ (by omega),show o + k - L.length = k by omega];simp [u32s,List.map_set]
 rw [e] at this;exact this
theorem Win.put {w:World} {g:Nat} {t:TypeId} {L R:List Value} {xs:List Nat} (h:Win w g t L xs R) {o:Nat} (ho:L.length = o) {k:Nat} (hk:k < xs.length) {d:Nat} {u:Int} (hu:u = (d:Int)) :
  Win (w.setCell ⟨g,o + k,none⟩ (.int .u32 u)) g t L (xs.set k d) R:=hu ▸ h.set ho hk d
theorem Win.below {w w':World} {g B:Nat} {t:TypeId} {L R:List Value} {xs:List Nat} (h:Win w g t L xs R) (hb:Below B w w') (hg:g < B):Win w' g t L xs R:=Blk.below h hb hg
theorem Win.reads {w:World} {g:Nat} {t:TypeId} {L R:List Value} {xs:List Nat} (h:Win w g t L xs R) {o:Nat} (ho:L.length = o):Ra w w.heap.size (some ⟨g,o,none⟩) xs :=
 fun _ => ⟨g,o,rfl,h.lt,fun _ hk => h.cell ho hk⟩
theorem Win.far_ {w:World} {g:Nat} {t:TypeId} {L R:List Value} {xs:List Nat} (h:Win w g t L xs R) {p:Addr} (hp:g≠p.block) (u:Value):Win (w.setCell p u) g t L xs R:=Blk.far h hp u
theorem Ow.win {w:World} {B n c g:Nat} {xs:List Nat} (h:Ow w B (.slice (some ⟨g,0,none⟩) n c) n xs):∃ R,Win w g 86 [] xs R/\B<=g/\n + R.length = c/\c<=maxLen:=by
 have hl:=h.len;rcases h.2 with ⟨h2,_⟩ | ⟨g',cap,cur,hv,hg,hh,hn,hc,hsz,ht⟩
 · injection h2 with h2; cases h2
 ·
  injection hv with h4 h5 h6
  injection h4 with h4
  injection h4 with h4
  subst h4 h6;refine ⟨cur.toList.drop n,?_,hg,by simp; omega,hc⟩;unfold Win Blk;rw [List.nil_append,<- ht,Nat.mul_one,List.take_append_drop];simpa using hh
theorem Ow.of_win {w:World} {B n c g:Nat} {xs:List Nat} {R:List Value} (h:Win w g 86 [] xs R) (hl:xs.length = n) (hB:B<=g) (hc:n + R.length = c) (hm:c<=maxLen):Ow w B (.slice (some ⟨g,0,none⟩) n c) n xs:=by
 have hlu:=u32s_length xs;refine ⟨by rw [hlu]; omega,.inr ⟨g,c,_,rfl,hB,h,by omega,hm,by simp; omega,?_⟩⟩;simp only [List.nil_append];rw [List.take_append_of_le_length (by omega),List.take_of_length_le (by omega)]
theorem wrote_below {w w':World} {g B:Nat} (h:w.grownBy w' (some g)) (hB:B<=g) (hg:g < w.heap.size):Below B w w':=(Below.refl B w).grown h (by omega) (fun k e => by cases e; exact hB)
theorem wrote_ra {w w':World} {g:Nat} (h:w.grownBy w' (some g)) {A:Option Addr} {xs:List Nat} (hr:Ra w g A xs) (hg:g < w.heap.size):Ra w' g A xs :=
 hr.keep fun p hp => World.cell?_of_block (h.block p.block (by omega) (by intro e; injection e with e; omega))
theorem wrote_set {a w:World} {b:Nat} (h:a.grownBy w (some b)) (i:Nat) (v:Value):a.grownBy (w.setCell ⟨b,i,none⟩ v) (some b):=Lib.grownBy_setB h i v
theorem Blk.kept {w w':World} {g:Nat} {t:TypeId} {cs:Array Value} (h:Blk w g t cs) {row:Option Nat} (hg:w.grownBy w' row) (hr:∀ r,row = some r->∃ o:Obj,w.heap[r]? = some o/\o.isCells = false):Blk w' g t cs :=
 (hg.block g h.lt (fun e => by obtain ⟨o,ho,hc⟩:=hr g e.symm; rw [show w.heap[g]? = _ from h] at ho; cases ho; cases hc)).trans h
theorem Win.kept {w w':World} {g:Nat} {t:TypeId} {L R:List Value} {xs:List Nat} (h:Win w g t L xs R) {row:Option Nat} (hg:w.grownBy w' row) (hr:∀ r,row = some r->∃ o:Obj,w.heap[r]? = some o/\o.isCells = false):Win w' g t L xs R:=Blk.kept h hg hr
theorem wrote_more {w w' w'':World} {g:Nat} (h:w.grownBy w' (some g)) {row:Option Nat} (hg:w'.grownBy w'' row) (hr:∀ r,row = some r->w.heap.size<=r):w.grownBy w'' (some g) :=
 ⟨hg.os.trans h.os,hg.tape.trans h.tape,hg.output.trans h.output,Nat.le_trans h.size hg.size,fun i hi hne => (hg.block i (Nat.lt_of_lt_of_le hi h.size) (fun e => by have:=hr i e.symm; omega)).trans (h.block i hi hne)⟩
theorem below_then {w w' w'':World} {g:Nat} (h:Below w.heap.size w w') (k:w'.grownBy w'' (some g)):w.grownBy w'' (some g) :=
 ⟨k.os.trans h.os,k.tape.trans h.tape,k.output.trans h.output,Nat.le_trans h.size k.size,fun i hi hne => (k.block i (Nat.lt_of_lt_of_le hi h.size) hne).trans (h.block i hi)⟩
theorem Dg.set {ds:List Nat} (h:Dg ds) {j r:Nat} (hr:r < 4294967296):Dg (ds.set j r):=fun d hd => by
 rcases List.mem_or_eq_of_mem_set hd with h1 | h1
 · exact h d h1
 · omega
theorem nth_set32 {ds:List Nat} {j r i:Nat} (hj:j < ds.length):nth (ds.set j r) i = if i = j then r else nth ds i:=by
 simp only [nth,List.getD_eq_getElem?_getD,List.getElem?_set];by_cases h:j = i
 · subst h; simp [hj]
 ·
  have:¬ i = j:=fun e => h e.symm
  simp [h,this]
theorem U_set_take {zs:List Nat} {k r:Nat} (hk:k < zs.length):U ((zs.set k r).take (k + 1)) = U (zs.take k) + 4294967296 ^ k * r:=by
 rw [U_take_succ,nth_set32 hk,if_pos rfl,List.take_set_of_le (Nat.le_refl k)]
def AddIn (xs ys zs:List Nat) (n k ov:Nat):Prop :=
 zs.length = n/\Dg zs/\(∀ j,k<=j->nth zs j = nth xs j)/\U (zs.take k) + 4294967296 ^ k * ov = U (xs.take k) + U (ys.take k)/\ov<=1
theorem AddIn.step {xs ys zs:List Nat} {n k ov X:Nat} (h:AddIn xs ys zs n k ov) (hk:k < n) (hX:nth xs k + nth ys k + ov = X) (hy:nth ys k < 4294967296):AddIn xs ys (zs.set k (X % 4294967296)) n (k + 1) (X / 4294967296):=by
 obtain ⟨hl,hd,hz,hU,ho⟩:=h;have hzk:=hz k (Nat.le_refl k);have hdk:=hd.nth k;refine ⟨by simp [hl],hd.set (by omega),fun j hj => by rw [nth_set32 (by omega),if_neg (by omega)]; exact hz j (by omega),?_,by omega⟩;rw [U_set_take (by omega),U_take_succ xs,U_take_succ ys,Nat.pow_succ];have:=Nat.div_add_mod X 4294967296;generalize X / 4294967296 = q at *
 generalize X % 4294967296 = r at *
 subst this;generalize 4294967296 ^ k = P at *
 have e:P * (nth xs k + nth ys k + ov) = P * (4294967296 * q + r):=by rw [hX]
 grind
theorem nth_drop_ext {a b:List Nat} {k:Nat} (hl:a.length = b.length) (h:∀ j,k<=j->nth a j = nth b j):a.drop k = b.drop k:=by
 apply List.ext_getElem
 · simp [hl]
 ·
  intro i h1 h2;have:=h (k + i) (by omega);simp only [List.length_drop] at h1 h2;rw [nth_in (by omega),nth_in (by omega)] at this;simpa using this
theorem U_split (xs:List Nat) (k:Nat) (hk:k<=xs.length):U xs = U (xs.take k) + 4294967296 ^ k * U (xs.drop k):=by
 have:=U_append (xs.take k) (xs.drop k);rw [List.take_append_drop,List.length_take,Nat.min_eq_left hk] at this;exact this
theorem AddIn.done {xs ys zs:List Nat} {n k ov:Nat} (h:AddIn xs ys zs n k ov) (hx:xs.length = n) (hk:k<=n) (hy:ys.length<=n) (he:k = n\/(ys.length<=k/\ov = 0)):U zs + 4294967296 ^ n * ov = U xs + U ys:=by
 obtain ⟨hl,hd,hz,hU,ho⟩:=h;rcases he with rfl | ⟨h1,rfl⟩
 · rwa [U_take_all zs _ (by omega),U_take_all xs _ (by omega),U_take_all ys _ (by omega)] at hU
 ·
  rw [U_take_all ys _ h1] at hU;rw [U_split zs k (by omega),U_split xs k (by omega),nth_drop_ext (by omega) hz];omega
def AddedInto (w:World) (g:Nat) (L:List Value) (xs ys:List Nat) (R:List Value) (n:Nat) (e:Ending) (w':World):Prop :=
 ∃ ov zs,e = .returned (.int .u32 ((ov:Nat):Int))/\zs.length = n/\Dg zs/\U zs + 4294967296 ^ n * ov = U xs + U ys/\ov<=1/\Win w' g 86 L zs R/\w.grownBy w' (some g)
theorem addInto_any (g o:Nat) (L R:List Value) (xs ys:List Nat) (n c n2 c2:Nat) (A2:Option Addr) (w:World) (hx:xs.length = n) (hy:ys.length = n2) (hL:L.length = o) (hw:Win w g 86 L xs R)
  (hr:Ra w g A2 ys) (hd:Dg xs) (hd2:Dg ys) (hn:n<=10000000) (hn2:n2<=n) (hc:n<=c) :
  Calls Tryz.prog 115 #[.slice (some ⟨g,o,none⟩) n c,.slice A2 n2 c2] w (AddedInto w g L xs ys R n):=by
 have HX:=qz hx;have HY:=qz hy;have HL:=qz hL;have hgl:=hw.lt;clear hx hy hL;go_enter Tryz.func115,Tryz.ntmps115;go_wp2_with fail;go_loopw [5,6] (fun cv iv wr => ∃ k ov zs,cv = .int .u64 ((ov:Nat):Int)/\iv = .int .i64 ((k:Nat):Int)/\k<=n/\AddIn xs ys zs n k ov/\Win wr g 86 L zs R/\w.grownBy wr (some g)) (fun _ iv _ => n - (intOf iv).toNat)
 case atStart => exact ⟨0,0,xs,rfl,rfl,by omega,⟨HX.out,hd,fun _ _ => rfl,by simp [U],by omega⟩,hw,World.grownBy.refl _ _⟩
 case round =>
  obtain ⟨k,ov,zs,rfl,rfl,hk,hin,hwin,hgr⟩:=hrel;have HI:=qz hin;have ho1:ov<=1:=hin.2.2.2.2;have hzl:Hid (zs.length = n):=qz hin.1;have hzk:Hid (k < n->nth zs k = nth xs k):=qz (fun _ => hin.2.2.1 k (Nat.le_refl k));have hxk:=hd.nth k;have hyk:=hd2.nth k;clear hin;have hcases:(k < n/\k < n2)\/(k < n/\¬ k < n2/\ov = 1)\/(k < n/\¬ k < n2/\ov = 0)\/(¬ k < n):=by omega
  rcases hcases with ⟨hkn,hk2⟩ | ⟨hkn,hk2,rfl⟩ | ⟨hkn,hk2,rfl⟩ | hkn
  ·
   have cz:=hwin.cell HL.out (k:=k) (by have:=hzl.out; omega);rw [hzk.out hkn] at cz;have fz:=hwin.frozen (o + k);obtain ⟨b2,o2,hA2,_,cy⟩:=(wrote_ra hgr hr hgl).at_ (k:=k) (by have:=HY.out; omega);subst hA2;obtain ⟨X,hX⟩:=exq (nth xs k + nth ys k + ov);have hXX:=qz hX;have hXe:(ov:Int) + (nth xs k:Int) + (nth ys k:Int) = (X:Int):=by omega
   have hst:=qz (HI.out.step hkn hX hyk);clear hX;go_wp2_with fail;go_roundw
   case rel => exact ⟨k + 1,X / 4294967296,zs.set k (X % 4294967296),by go_num,by go_num,by omega,hst.out,hwin.put HL.out (by have:=hzl.out; omega) (by omega),wrote_set hgr _ _⟩
   case measure => simp [intOf]; omega
  ·
   have cz:=hwin.cell HL.out (k:=k) (by have:=hzl.out; omega);rw [hzk.out hkn] at cz;have fz:=hwin.frozen (o + k);obtain ⟨X,hX⟩:=exq (nth xs k + nth ys k + 1);have hXe:(1:Int) + (nth xs k:Int) = (X:Int):=by have:=nth_out (xs:=ys) (i:=k) (by have:=HY.out; omega); omega
   have hst:=qz (HI.out.step hkn hX hyk);clear hX;go_wp2_with fail;go_roundw
   case rel => exact ⟨k + 1,X / 4294967296,zs.set k (X % 4294967296),by go_num,by go_num,by omega,hst.out,hwin.put HL.out (by have:=hzl.out; omega) (by omega),wrote_set hgr _ _⟩
   case measure => simp [intOf]; omega
  ·
   have hfin:=qz (HI.out.done HX.out hk (by have:=HY.out; omega) (.inr ⟨by have:=HY.out; omega,rfl⟩));go_wp2_with fail;go_ret;exact ⟨0,zs,rfl,hzl.out,HI.out.2.1,hfin.out,by omega,hwin,hgr⟩
  ·
   obtain rfl:k = n:=by omega
   have hfin:=qz (HI.out.done HX.out hk (by have:=HY.out; omega) (.inl rfl));go_wp2_with fail;go_ret;exact ⟨ov,zs,rfl,hzl.out,HI.out.2.1,hfin.out,by omega,hwin,hgr⟩
def TakeIn (xs ys zs:List Nat) (m n k tk br:Nat):Prop :=
 zs.length = n/\Dg zs/\(∀ j,k<=j->nth zs j = nth xs j)/\U (xs.take k) + 4294967296 ^ k * (tk + br) = U (zs.take k) + m * U (ys.take k)/\tk<=4294967295/\br<=1
theorem TakeIn.step {xs ys zs:List Nat} {m n k tk br T z br':Nat} (h:TakeIn xs ys zs m n k tk br) (hk:k < n) (hT:tk + m * nth ys k = T) (hTb:T / 4294967296<=4294967295) (hz:nth xs k + 4294967296 * br' = z + T % 4294967296 + br) (hzb:z < 4294967296) (hbr:br'<=1) :
  TakeIn xs ys (zs.set k z) m n (k + 1) (T / 4294967296) br':=by
 obtain ⟨hl,hd,hzz,hU,ho,hb⟩:=h;refine ⟨by simp [hl],hd.set hzb,fun j hj => by rw [nth_set32 (by omega),if_neg (by omega)]; exact hzz j (by omega),?_,hTb,hbr⟩;rw [U_set_take (by omega),U_take_succ xs,U_take_succ ys,Nat.pow_succ];have:=Nat.div_add_mod T 4294967296;generalize T / 4294967296 = q at *
 generalize T % 4294967296 = r at *
 generalize 4294967296 ^ k = P at *
 have e:P * (nth xs k + 4294967296 * br') = P * (z + r + br):=by rw [hz]
 have e2:P * (tk + m * nth ys k) = P * (4294967296 * q + r):=by rw [hT,this]
 grind
theorem take_prod {m y tk:Nat} (hm:m<=4294967295) (hy:y < 4294967296) (ht:tk<=4294967295):m * y<=18446744065119617025/\(tk + m * y) / 4294967296<=4294967295:=by
 have h:=Nat.mul_le_mul hm (show y<=4294967295 by omega);have h2:m * y<=18446744065119617025:=h;generalize m * y = p at *
 omega
theorem wrap_u64 (x:Int):IntKind.u64.wrap x = x % 18446744073709551616:=by simp [IntKind.wrap,IntKind.bits,IntKind.signed]
theorem take_vals (d T br:Nat) (hd:d < 4294967296) (hT:T < 18446744073709551616) (hbr:br<=1):∃ z br':Nat,z < 4294967296/\br'<=1/\d + 4294967296 * br' = z + T % 4294967296 + br /\
  IntKind.u64.wrap (IntKind.u64.wrap ((d:Int) - bits .and .u64 (T:Int) 4294967295) - (br:Int)) % 4294967296 = (z:Int) /\
  IntKind.u64.wrap (IntKind.u64.wrap ((d:Int) - bits .and .u64 (T:Int) 4294967295) - (br:Int)) / 9223372036854775808 = (br':Int):=by
 rw [and_mask32 T hT,wrap_u64,wrap_u64];obtain ⟨t0,ht⟩:=exq (T % 4294967296);have h0:t0 < 4294967296:=by omega
 rw [ht];by_cases h:t0 + br<=d
 · exact ⟨d - t0 - br,0,by omega,by omega,by omega,by omega,by omega⟩
 · exact ⟨d + 4294967296 - t0 - br,1,by omega,by omega,by omega,by omega,by omega⟩
def nz (a:Nat):Bool:=a != 0
theorem nz_yes {a:Nat} (h:0 < a):nz a = true:=by simp [nz]; omega
theorem nz_no:nz 0 = false:=rfl
theorem take_ne (a b:Nat):((a:Int) + (b:Int) != 0) = nz (a + b):=by
 rcases Nat.eq_zero_or_pos (a + b) with h | h
 ·
  have h1:(a:Int) + (b:Int) = 0:=by omega
  rw [h,h1]; rfl
 ·
  have h1:¬ (a:Int) + (b:Int) = 0:=by omega
  rw [nz_yes h];exact bne_iff_ne.2 h1
theorem TakeIn.done {xs ys zs:List Nat} {m n tk br:Nat} (h:TakeIn xs ys zs m n n tk br) (hx:xs.length = n) (hy:ys.length<=n):U xs + 4294967296 ^ n * (tk + br) = U zs + m * U ys:=by
 obtain ⟨hl,hd,hz,hU,ho⟩:=h
 rwa [U_take_all zs _ (by omega),U_take_all xs _ (by omega),U_take_all ys _ (by omega)] at hU
def TakenOff (w:World) (g:Nat) (L:List Value) (xs ys:List Nat) (R:List Value) (m n:Nat) (e:Ending) (w':World):Prop :=
 ∃ T zs,e = .returned (.bool (nz T))/\zs.length = n/\Dg zs/\U xs + 4294967296 ^ n * T = U zs + m * U ys/\Win w' g 86 L zs R/\w.grownBy w' (some g)
theorem takeOff_any (g o:Nat) (L R:List Value) (xs ys:List Nat) (m n c n2 c2:Nat) (A2:Option Addr) (w:World) (hx:xs.length = n) (hy:ys.length = n2) (hL:L.length = o) (hw:Win w g 86 L xs R)
  (hr:Ra w g A2 ys) (hd:Dg xs) (hd2:Dg ys) (hn:n<=10000000) (hn2:n2<=n) (hc:n<=c) (hm:m<=4294967295) :
  Calls Tryz.prog 144 #[.slice (some ⟨g,o,none⟩) n c,.slice A2 n2 c2,.int .u64 ((m:Nat):Int)] w (TakenOff w g L xs ys R m n):=by
 have HX:=qz hx;have HY:=qz hy;have HL:=qz hL;have hgl:=hw.lt;clear hx hy hL;go_enter Tryz.func144,Tryz.ntmps144;go_wp2_with fail
 go_loopw [7,8,14] (fun tv bv iv wr => ∃ k tk br zs,tv = .int .u64 ((tk:Nat):Int)/\bv = .int .u64 ((br:Nat):Int)/\iv = .int .i64 ((k:Nat):Int)/\k<=n/\TakeIn xs ys zs m n k tk br/\Win wr g 86 L zs R/\w.grownBy wr (some g)) (fun _ _ iv _ => n - (intOf iv).toNat)
 case atStart => exact ⟨0,0,0,xs,rfl,rfl,rfl,by omega,⟨HX.out,hd,fun _ _ => rfl,by simp [U],by omega,by omega⟩,hw,World.grownBy.refl _ _⟩
 case round =>
  obtain ⟨k,tk,br,zs,rfl,rfl,rfl,hk,hin,hwin,hgr⟩:=hrel;have HI:=qz hin;have ht1:tk<=4294967295:=hin.2.2.2.2.1;have hb1:br<=1:=hin.2.2.2.2.2;have hzl:Hid (zs.length = n):=qz hin.1;have hzk:Hid (k < n->nth zs k = nth xs k):=qz (fun _ => hin.2.2.1 k (Nat.le_refl k));have hxk:=hd.nth k;have hyk:=hd2.nth k;clear hin;by_cases hkn:k < n
  ·
   have cz:=hwin.cell HL.out (k:=k) (by have:=hzl.out; omega);rw [hzk.out hkn] at cz;have fz:=hwin.frozen (o + k);obtain ⟨hp1,hp2⟩:=take_prod hm hyk ht1;obtain ⟨T,hT⟩:=exq (tk + m * nth ys k);rw [hT] at hp2;have hTb:T < 18446744073709551616:=by omega
   obtain ⟨z,br',hz,hbr,hzr,e1,e2⟩:=take_vals (nth xs k) T br hxk hTb hb1;have hst:=qz (HI.out.step hkn hT hp2 hzr hz hbr);by_cases hk2:k < n2
   ·
    have hTi:(T:Int) = (tk:Int) + (m:Int) * (nth ys k:Int):=by rw [<- hT]; simp
    have e3:((tk:Int) + (m:Int) * (nth ys k:Int)) / 4294967296 = ((T / 4294967296:Nat):Int):=by rw [<- hTi]; omega
    rw [hTi] at e1 e2;have E1:=qz e1;have E2:=qz e2;have E3:=qz e3;clear e1 e2 e3 hTi hT hzr;obtain ⟨b2,o2,hA2,_,cy⟩:=(wrote_ra hgr hr hgl).at_ (k:=k) (by have:=HY.out; omega);subst hA2;go_wp2_with fail;go_roundw
    case rel => exact ⟨k + 1,T / 4294967296,br',zs.set k z,by rw [E3.out],by rw [E2.out],by go_num,by omega,hst.out,hwin.put HL.out (by have:=hzl.out; omega) E1.out,wrote_set hgr _ _⟩
    case measure => simp [intOf]; omega
   ·
    have hy0:nth ys k = 0:=nth_out (by have:=HY.out; omega);obtain rfl:tk = T:=by rw [<- hT,hy0]; simp
    have E1:=qz e1;have E2:=qz e2;clear e1 e2 hT hzr hy0;go_wp2_with fail;go_roundw
    case rel => exact ⟨k + 1,tk / 4294967296,br',zs.set k z,by go_num,by rw [E2.out],by go_num,by omega,hst.out,hwin.put HL.out (by have:=hzl.out; omega) E1.out,wrote_set hgr _ _⟩
    case measure => simp [intOf]; omega
  ·
   obtain rfl:k = n:=by omega
   have hfin:=qz (HI.out.done HX.out (by have:=HY.out; omega));go_wp2_with fail;go_ret;exact ⟨tk + br,zs,congrArg (fun b => Ending.returned (.bool b)) (take_ne tk br),hzl.out,HI.out.2.1,hfin.out,hwin,hgr⟩
end
section
open Go.RowKit Go.Shelf
set_option maxRecDepth 100000
attribute [local go_sem] Oper.semAt_some
def IsBits (a b:Nat):Prop:=a < 2 ^ b/\(b = 0\/2 ^ (b - 1)<=a)
theorem bits_len {d low k:Nat} (hd:d < 4294967296) (h0:d≠0) (hlow:low < 4294967296 ^ k):IsBits (low + 4294967296 ^ k * d) (k * 32 + Lib.bitLen d):=by
 obtain ⟨h1,h2,h3⟩:=Lib.bitLenAux_bounds 64 d (Nat.lt_trans hd (by decide)) h0;have e:Lib.bitLenAux 64 d = Lib.bitLen d:=rfl;rw [e] at h1 h2 h3;generalize Lib.bitLen d = l at *
 have hp:(4294967296:Nat) ^ k = 2 ^ (k * 32):=by rw [show (4294967296:Nat) = 2 ^ 32 by decide,<- Nat.pow_mul,Nat.mul_comm]
 rw [hp] at hlow ⊢;refine ⟨?_,.inr ?_⟩
 ·
  rw [Nat.pow_add];have:2 ^ (k * 32) * (d + 1)<=2 ^ (k * 32) * 2 ^ l:=Nat.mul_le_mul_left _ h3;rw [Nat.mul_add] at this;omega
 ·
  rw [show k * 32 + l - 1 = k * 32 + (l - 1) by omega,Nat.pow_add];have:2 ^ (k * 32) * 2 ^ (l - 1)<=2 ^ (k * 32) * d:=Nat.mul_le_mul_left _ h2;omega
theorem natBits_any (A:Option Addr) (xs:List Nat) (n c:Nat) (w:World) (hl:xs.length = n) (hr:Ra w w.heap.size A xs) (hd:Dg xs) (hn:n<=10000000) (hc:n<=c) :
  Calls Tryz.prog 158 #[.slice A n c] w fun e w' => ∃ b:Nat,e = .returned (.int .i64 (b:Int))/\IsBits (U xs) b/\w = w':=by
 have hcan:=cl_can hd;have hU:=cl_U xs;have hcl:=cl_le xs;go_enter Tryz.func158,Tryz.ntmps158;go_wp2_with fail;refine (shorten_cl A xs n c w hl hr hd hn hc).mono ?_;rintro e w' ⟨rfl,rfl⟩;obtain ⟨m,hm⟩:=exq (cl xs);rw [hm] at hcan hU hcl ⊢;have hmn:m<=n:=by omega
 have HC:=qz hcan;have HL:=qz hl;clear hm hcan hl;by_cases h0:0 < m
 ·
  obtain ⟨k,rfl⟩:∃ k,m = k + 1:=⟨m - 1,by omega⟩
  obtain ⟨b,o,hA,_,cx⟩:=hr.at_ (k:=k) (by omega);subst hA;have hdk:=hd.nth k
  have hb:IsBits (U xs) (k * 32 + Lib.bitLen (nth xs k)):=by
   rw [<- hU,U_take_succ];refine bits_len hdk ?_ ?_
   ·
    have h1:=HC.out.2 (by intro h; have h2:=congrArg List.length h; rw [List.length_take,List.length_nil] at h2; have:=HL.out; omega);have h2:(xs.take (k + 1)).length = k + 1:=by simp; omega
    rw [h2,nth_take (by omega)] at h1;simpa using h1
   ·
    have h1:=U_lt (hd.take k)
    rwa [show (xs.take k).length = k by simp; omega] at h1
  have HB:=qz hb;have hbl:Lib.bitLen (nth xs k)<=32:=Lib.bitLen_le _ 32 (by omega) (Nat.lt_of_lt_of_le hdk (by decide));obtain ⟨l,hll⟩:=exq (Lib.bitLen (nth xs k));rw [hll] at HB hbl;have HLL:=qz hll;clear hb hll hU;go_wp2_with fail;refine (Tryz.bits_Len32 ((nth xs k:Nat):Int) _ (by omega) (by omega)).mono ?_;rintro e w' ⟨rfl,rfl⟩
  rw [Int.toNat_natCast,HLL.out];go_wp2_with fail;go_ret;exact ⟨k * 32 + l,by go_num,HB.out,rfl⟩
 ·
  obtain rfl:m = 0:=by omega
  have h1:U xs = 0:=by rw [<- hU]; simp [U]
  have HU:=qz h1;clear h1 hU;go_wp2_with fail;go_ret;exact ⟨0,rfl,⟨by rw [HU.out]; decide,.inl rfl⟩,rfl⟩
theorem cmp_len {xs ys:List Nat} (hx:Cn xs) (hy:Cn ys) (h:xs.length < ys.length):U xs < U ys:=by
 have h1:=U_lt hx.1;have h2:=U_ge hy (by rintro rfl; simp at h);have h3:=Nat.pow_le_pow_right (show 0 < 4294967296 by omega) (show xs.length<=ys.length - 1 by omega);omega
end
section
open Go.RowKit Go.Shelf
set_option maxRecDepth 100000
attribute [local go_sem] Oper.semAt_some
end
section
open Go.RowKit
set_option maxRecDepth 100000
theorem zeroCells_u32s (k:Nat):Builtin.zeroCells (Value.int .u32 0).cells k = (u32s (List.replicate k 0)).toArray:=by
 apply Array.ext
 · simp [Builtin.zeroCells,u32s,Value.cells]
 ·
  intro i h1 h2;simp [Builtin.zeroCells,u32s,Value.cells,Nat.mod_one]
section
variable {P:Program} (w:World)
theorem run_append_room_zeros32 (t tn ty e:TypeId) (i:TypeInfo) (ht:P.underlying t = some (.slice e)) (htn:P.underlying tn = some (.int .i64)) (hi:P.info? e = some i) (hz:i.zero = some (.int .u32 0)) (hsz:i.size = 1) (hby:i.bytes = 4)
  (g n cap k:Nat) (cur:Array Value) (hg:w.heap[g]? = some (.cells cur e (0,0))) (hk:0 < k) (hb:n + k<=10000000) (hroom:n + k<=cap) (hfit:n + k<=cur.size) :
  (Builtin.append_ #[t,tn] ty #[.slice (some ⟨g,0,none⟩) n cap,.int .i64 (k:Int)]).run P w =
   .ok (.slice (some ⟨g,0,none⟩) (n + k) cap) (w.setRow g (cur.toList.take n ++ u32s (List.replicate k 0) ++ cur.toList.drop (n + k)).toArray):=by
 have hst:=run_storeCells_at P g n e (u32s (List.replicate k 0)) 0 cur w hg (by simp [u32s]; omega) (u32s_one _);have hlk:(u32s (List.replicate k 0)).length = k:=by simp [u32s]
 simp only [Nat.add_zero,hlk] at hst;have hw:IntKind.i64.wrap (k:Int) = k:=by rw [IntKind.wrap_i64]; omega
 have hneg:¬ ((k:Int) < 0):=by omega
 have hk0:k≠0:=by omega
 have h48i:¬ (281474976710656 < (k:Int) * 4):=by omega
 have hzc:=zeroCells_u32s k;simp only [Value.cells] at hzc;simp [Builtin.append_,run_underlying ht,run_underlying htn,sizeOf,typeInfo,zeroValue,hi,hz,asInt,asIntOf,hw,hneg,hsz,hby,hk0,h48i,hroom,Addr.add_lit,Value.cells,hzc,hst]
theorem run_append_zeros32 (base:Nat) (t tn ty e:TypeId) (ht:P.underlying t = some (.slice e)) (htn:P.underlying tn = some (.int .i64)) (hinfo:(P.info? e).map (fun i => (i.zero,i.size,i.bytes)) = some (some (.int .u32 0),1,4))
  (v:Value) (n k:Nat) (xs:List Nat) (hown:w.ownsRow base e 1 v n (u32s xs)) (hk:0 < k) (hb:n + k<=10000000) (hbase:base<=w.heap.size) :
  ∃ v' w',(Builtin.append_ #[t,tn] ty #[v,.int .i64 (k:Int)]).run P w = .ok v' w'/\w'.ownsRow base e 1 v' (n + k) (u32s (xs ++ List.replicate k 0))/\w.grownBy w' v.ownBlock:=by
 obtain ⟨i,hi,hz,hsz,hby⟩:=info_parts hinfo;have hlk:(u32s (List.replicate k 0)).length = k:=by simp [u32s]
 have hlen:(u32s (xs ++ List.replicate k 0)).length = (n + k) * 1:=by have:=hown.1; rw [u32s_append,List.length_append,hlk]; omega
 have hzs:(Value.int .u32 0).cells.size = 1:=rfl
 have grown:∀ (old:Nat),old < n + k->∀ (row:Option Nat),
   (w.drew.alloc (.cells ((u32s xs).toArray ++ Builtin.zeroCells (Value.int .u32 0).cells k ++ Builtin.zeroCells (Value.int .u32 0).cells (grownCap w (n + k) old e - (n + k))) e)).ownsRow base e 1
    (.slice (some ⟨w.heap.size,0,none⟩) (n + k) (grownCap w (n + k) old e)) (n + k) (u32s (xs ++ List.replicate k 0)) /\
   w.grownBy (w.drew.alloc (.cells ((u32s xs).toArray ++ Builtin.zeroCells (Value.int .u32 0).cells k ++ Builtin.zeroCells (Value.int .u32 0).cells (grownCap w (n + k) old e - (n + k))) e)) row:=by
  intro old ho row;have hge:=grownCap_ge w (n + k) old e;have hcm:grownCap w (n + k) old e<=maxLen:=grownCap_le_maxLen w (n + k) old e (by unfold maxLen; omega);refine ⟨⟨hlen,.inr ⟨w.heap.size,_,_,rfl,hbase,heap_alloc_new w.drew _,hge,hcm,?_,?_⟩⟩,⟨rfl,rfl,rfl,by simp,fun j hj _ => Below.heap_alloc w.drew _ j hj⟩⟩
  ·
   have:=hown.1;simp only [Array.size_append,List.size_toArray,size_zeroCells,hzs];omega
  ·
   rw [u32s_append,zeroCells_u32s k];have h1:((u32s xs).toArray ++ (u32s (List.replicate k 0)).toArray ++ Builtin.zeroCells (Value.int .u32 0).cells (grownCap w (n + k) old e - (n + k))).toList = (u32s xs ++ u32s (List.replicate k 0)) ++ (Builtin.zeroCells (Value.int .u32 0).cells (grownCap w (n + k) old e - (n + k))).toList:=by simp
   rw [h1,<- u32s_append,<- hlen];exact List.take_left
 rcases hown.2 with ⟨rfl,rfl⟩ | ⟨g,cap,cur,rfl,hbg,hg,hnc,hcm,hcs,htake⟩
 ·
  have hx:xs = []:=by have:=hown.1; rw [u32s_length] at this; exact List.eq_nil_of_length_eq_zero (by omega)
  subst hx;have hr:=Lib.run_append_nil_zeros (P:=P) w t tn ty e i (.int .u32 0) .i64 .i64 ht htn hi hz k hk (by omega) (by omega) (by rw [hby]; omega);have hgr:=grown 0 (by omega) (Value.ownBlock (.slice none 0 0));simp only [Nat.zero_add,u32s,List.map_nil,Array.empty_append] at hgr hr ⊢;exact ⟨_,_,hr,hgr.1,hgr.2⟩
 ·
  by_cases hroom:n + k<=cap
  ·
   have hr:=run_append_room_zeros32 (P:=P) w t tn ty e i ht htn hi hz hsz hby g n cap k cur hg hk hb hroom (by omega);refine ⟨_,_,hr,⟨hlen,.inr ⟨g,cap,_,rfl,hbg,setRow_heap w g cur _ e _ hg,hroom,hcm,?_,?_⟩⟩,⟨rfl,rfl,rfl,by simp,fun j _ hj => setRow_other w g j _ (fun e => hj (by simp [Value.ownBlock,e]))⟩⟩
   ·
    simp only [List.size_toArray,List.length_append,List.length_take,List.length_drop,Array.length_toList,hlk];omega
   ·
    simp only [Nat.mul_one] at htake ⊢;rw [htake,u32s_append];have h2:n + k = (u32s xs ++ u32s (List.replicate k 0)).length:=by rw [<- u32s_append]; omega
    conv => lhs; rw [h2]
    exact List.take_left
  ·
   have holds:∀ j u,(u32s xs)[j]? = some u->w.drew.cell? ((⟨g,0,none⟩:Addr).add j) = some u:=World.ownsRow.cells (g:=g) hown rfl;have hf:=run_firstCells_some (P:=P) w.drew i.size n ⟨g,0,none⟩ n cap (u32s xs) (by rw [hsz]; exact hown.1) holds
   have hr:=Lib.run_append_grow_zeros (P:=P) w t tn ty e i (.int .u32 0) .i64 .i64 ht htn hi hz (some ⟨g,0,none⟩) n cap (u32s xs) hf k hk (by omega) (by omega) (by omega) (by rw [hby]; omega) (growslice_fits (by omega) (by rw [hby]; omega));have hgr:=grown cap (by omega) (Value.ownBlock (.slice (some ⟨g,0,none⟩) n cap));exact ⟨_,_,hr,hgr.1,hgr.2⟩
theorem wpList_append_zeros32 {ops:Array Oper} {rest:List Oper} {o:Oper} {a:Act} {Q:Exit->Act->World->Prop} (hgd:o.guard = none) (s x:Operand) (t tn:TypeId)
  (ho:o.op = .call { callee:=.builtin .append,args:=#[s,x],argTypes:=#[t,tn] })
  (base:Nat) (e:TypeId) (ht:P.underlying t = some (.slice e)) (htn:P.underlying tn = some (.int .i64)) (hinfo:(P.info? e).map (fun i => (i.zero,i.size,i.bytes)) = some (some (.int .u32 0),1,4))
  (v:Value) (n k:Nat) (xs:List Nat) (hs:a.eval s = v) (hown:w.ownsRow base e 1 v n (u32s xs)) (z:Int) (hzk:z = (k:Int)) (hx:a.eval x = .int .i64 z) (hk:0 < k) (hb:n + k<=10000000) (hbase:base<=w.heap.size)
  (h:∀ A' n' c' w',Hid (n' = n + k)->n'<=c'->Hid (w'.ownsRow base e 1 (.slice A' n' c') n' (u32s (xs ++ List.replicate k 0)))->w.grownBy w' v.ownBlock->wpList P ops Q rest (a.put o.dst (.slice A' n' c')) w') :
  wpList P ops Q (o :: rest) a w:=by
 subst hzk;refine wpList_plain hgd fun K hK => ?_
 obtain ⟨v',w',hrun,h2,h3⟩:=run_append_zeros32 (P:=P) w base t tn o.type e ht htn hinfo v n k xs hown hk hb hbase;unfold Oper.wp execOp;simp only [ho,resolve,invoke,builtin,Sem.run_bind,Sem.run_pure,Result.andThen_ok,List.map_toArray,List.map_cons,List.map_nil,hs,hx,hrun];obtain ⟨A',c',rfl,hc'⟩:=ownsRow_form w' h2;exact hK _ _ (h A' _ c' w' rfl hc' h2 h3)
end
end
section
open Go.RowKit Go.Shelf
set_option maxRecDepth 100000
attribute [local go_sem] Oper.semAt_some
theorem div32_bounds {h l y:Nat} (hy:h < y) (hyb:y < 4294967296) (hl:l < 4294967296):(h * 4294967296 + l) / y < 4294967296/\(h * 4294967296 + l) % y < y:=by
 refine ⟨?_,Nat.mod_lt _ (by omega)⟩;rw [Nat.div_lt_iff_lt_mul (by omega)];have:(h + 1) * 4294967296<=y * 4294967296:=Nat.mul_le_mul_right _ hy;rw [Nat.mul_comm 4294967296 y];omega
theorem or_hl {h l:Nat} (hh:h < 4294967296) (hl:l < 4294967296):bits .or .u64 ((h:Int) * 4294967296) (l:Int) = ((h * 4294967296 + l:Nat):Int):=by
 rw [show (h:Int) * 4294967296 = ((h * 4294967296:Nat):Int) by omega,or_low32 h l hh hl]
theorem div32_any (h l y:Nat) (w:World) (hy:h < y) (hyb:y < 4294967296) (hl:l < 4294967296) :
  Calls Tryz.prog 140 #[.int .u32 (h:Int),.int .u32 (l:Int),.int .u32 (y:Int)] w fun e w' =>
   e = .returned (.tuple #[.int .u32 (((h * 4294967296 + l) / y:Nat):Int),.int .u32 (((h * 4294967296 + l) % y:Nat):Int)])/\∃ n,w' = w.drewN n:=by
 obtain ⟨hq,hr⟩:=div32_bounds hy hyb hl;obtain ⟨T,hT⟩:=exq (h * 4294967296 + l);obtain ⟨q,hq0⟩:=exq (T / y);obtain ⟨r,hr0⟩:=exq (T % y);have hor:bits .or .u64 ((h:Int) * 4294967296) (l:Int) = (T:Int):=by rw [or_hl (by omega) hl,hT]
 have hTb:T < 18446744073709551616:=by omega
 rw [hT,hq0] at hq;rw [hT,hr0] at hr;rw [hT,hq0,hr0];have y0:¬ (y:Int) = 0:=by omega
 have ed:(T:Int).tdiv (y:Int) = (q:Int):=by rw [Int.tdiv_eq_ediv_of_nonneg (by omega),<- hq0]; rfl
 have em:(T:Int).tmod (y:Int) = (r:Int):=by rw [Int.tmod_eq_emod_of_nonneg (by omega),<- hr0]; rfl
 have yne:((y:Int) != 0) = true:=by simp; omega
 have yle:decide ((y:Int)<=(h:Int)) = false:=by simp; omega
 have wy:IntKind.u64.wrap (y:Int) = y:=IntWalk.u64_in _ (by omega);have wq:IntKind.u64.wrap (q:Int) = q:=IntWalk.u64_in _ (by omega);have wq2:IntKind.u32.wrap (q:Int) = q:=IntWalk.u32_in _ (by omega);have wr2:IntKind.u32.wrap (r:Int) = r:=IntWalk.u32_in _ (by omega);have wr3:IntKind.u64.wrap (r:Int) = r:=IntWalk.u64_in _ (by omega)
 have yb0:((y:Int) == 0) = false:=by simp; omega
 clear hT hq0 hr0;go_enter Tryz.func140,Tryz.ntmps140;go_wp2_with fail
 go_quiet (fail)
 go_wp2_with fail;go_ret2;exact ⟨rfl,_,rfl⟩
def DivD (xs zs:List Nat) (n d k rest:Nat):Prop :=
 zs.length = n/\Dg zs/\(∀ j,j < n - k->nth zs j = nth xs j)/\U (zs.drop (n - k)) = U (xs.drop (n - k)) / d/\rest = U (xs.drop (n - k)) % d
theorem DivD.step {xs zs:List Nat} {n d k rest p:Nat} (h:DivD xs zs n d k rest) (hk:k < n) (hp:n - 1 - k = p) (hd:0 < d) (hd2:d < 4294967296) (hx:Dg xs) :
  DivD xs (zs.set p ((rest * 4294967296 + nth xs p) / d)) n d (k + 1) ((rest * 4294967296 + nth xs p) % d):=by
 obtain ⟨h1,h2,h3,h4,h5⟩:=h;have hr:rest < d:=by rw [h5]; exact Nat.mod_lt _ hd
 obtain ⟨hq,_⟩:=div32_bounds hr hd2 (hx.nth p);have e1:n - (k + 1) = p:=by omega
 have e2:n - k = p + 1:=by omega
 rw [e2] at h3 h4 h5;rw [DivD,e1];have hdx:=U_drop xs p
 have key:U (xs.drop p) = (rest * 4294967296 + nth xs p) + d * (4294967296 * (U (xs.drop (p + 1)) / d)):=by
  rw [hdx];have:=Nat.div_add_mod (U (xs.drop (p + 1))) d;rw [<- h5] at this;generalize U (xs.drop (p + 1)) / d = Q at *
  generalize U (xs.drop (p + 1)) = X at *
  subst this
  grind
 refine ⟨by simp [h1],h2.set hq,fun j hj => by rw [nth_set32 (by omega),if_neg (by omega)]; exact h3 j (by omega),?_,?_⟩
 ·
  have hdz:=U_drop (zs.set p ((rest * 4294967296 + nth xs p) / d)) p;rw [nth_set32 (by omega),if_pos rfl,nth_drop_ext (a:=zs.set p ((rest * 4294967296 + nth xs p) / d)) (b:=zs) (k:=p + 1) (by simp) (fun j hj => by rw [nth_set32 (by omega),if_neg (by omega)]),h4] at hdz;rw [hdz,key,Nat.add_mul_div_left _ _ hd]
 · rw [key,Nat.add_mul_mod_self_left]
def DividedBy (w:World) (g:Nat) (L:List Value) (xs:List Nat) (R:List Value) (n d:Nat) (e:Ending) (w':World):Prop :=
 ∃ zs,e = .returned (.int .u32 ((U xs % d:Nat):Int))/\zs.length = n/\Dg zs/\U zs = U xs / d/\Win w' g 86 L zs R/\w.grownBy w' (some g)
structure DMem (w:World) (g o n c d:Nat) (L R:List Value) (xs:List Nat) (k:Nat) (W:World):Prop where
 one:Blk W w.heap.size 44 #[.slice (some ⟨g,o,none⟩) n c]
 two:Blk W (w.heap.size + 1) 86 #[.int .u32 (d:Int)]
 rest:∃ rest zs,DivD xs zs n d k rest/\Blk W (w.heap.size + 2) 86 #[.int .u32 (rest:Int)]/\Win W g 86 L zs R
 wrote:w.grownBy W (some g)
theorem DMem.kept {w:World} {g o n c d:Nat} {L R:List Value} {xs:List Nat} {k:Nat} {X Y:World} {row:Option Nat} (h:DMem w g o n c d L R xs k X) (hg:X.grownBy Y row) {B:Nat} (hB:w.heap.size<=B)
  (hr:∀ r,row = some r->B<=r/\∃ o:Obj,X.heap[r]? = some o/\o.isCells = false):DMem w g o n c d L R xs k Y:=by
 obtain ⟨rest,zs,h1,h2,h3⟩:=h.rest;have hr2:∀ r,row = some r->∃ o:Obj,X.heap[r]? = some o/\o.isCells = false:=fun r e => (hr r e).2
 exact ⟨h.one.kept hg hr2,h.two.kept hg hr2,⟨rest,zs,h1,h2.kept hg hr2,h3.kept hg hr2⟩,wrote_more h.wrote hg (fun r e => by have:=(hr r e).1; omega)⟩
theorem divByDigit_any (g o:Nat) (L R:List Value) (xs:List Nat) (n c d:Nat) (w:World) (hx:xs.length = n) (hL:L.length = o) (hw:Win w g 86 L xs R)
  (hd:Dg xs) (hn:n<=10000000) (hc:n<=c) (hd0:0 < d) (hdb:d < 4294967296) :
  Calls Tryz.prog 128 #[.slice (some ⟨g,o,none⟩) n c,.int .u32 (d:Int)] w (DividedBy w g L xs R n d):=by
 have HX:=qz hx;have HL:=qz hL;have hgl:=hw.lt;clear hx hL;refine calls_of_leave Tryz.func128 rfl ?_;simp only [Tryz.ntmps128,List.size_toArray,List.length_cons,List.length_nil,Nat.reduceAdd,Nat.reduceSub,Array.replicate_succ,Array.replicate_zero,List.push_toArray,List.append_toArray,List.nil_append,List.cons_append];go_wp2_with fail
 refine (backw_calls _ _ _ _).mono ?_;rintro e w' ⟨rfl,rfl⟩;obtain ⟨W0,hW0⟩:=exq (((((w.alloc (.cells #[.slice (some ⟨g,o,none⟩) n c] 44)).alloc (.cells #[.int .u32 (d:Int)] 86)).alloc (.cells #[.int .u32 0] 86)).alloc (.cells #[.slice (some ⟨g,o,none⟩) n c] 44)));have hs0:W0.heap.size = w.heap.size + 4:=by rw [<- hW0]; simp
 have hB0:Below w.heap.size w W0:=by rw [<- hW0]; exact (((((Below.refl _ w).alloc (Nat.le_refl _) _).alloc (by simp) _).alloc (by simp; omega) _).alloc (by simp; omega) _)
 have hwin0:Win W0 g 86 L xs R:=hw.below hB0 hgl;have b1:Blk W0 w.heap.size 44 #[.slice (some ⟨g,o,none⟩) n c]:=by rw [<- hW0]; exact (((Blk.new w _ _).alloc _).alloc _).alloc _
 have b2:Blk W0 (w.heap.size + 1) 86 #[.int .u32 (d:Int)]:=by
  rw [<- hW0];have:=((Blk.new (w.alloc (.cells #[.slice (some ⟨g,o,none⟩) n c] 44)) 86 #[.int .u32 (d:Int)]).alloc (.cells #[.int .u32 0] 86)).alloc (.cells #[.slice (some ⟨g,o,none⟩) n c] 44);rw [World.size_alloc] at this;exact this
 have b3:Blk W0 (w.heap.size + 2) 86 #[.int .u32 ((0:Nat):Int)]:=by
  rw [<- hW0];have:=(Blk.new ((w.alloc (.cells #[.slice (some ⟨g,o,none⟩) n c] 44)).alloc (.cells #[.int .u32 (d:Int)] 86)) 86 #[.int .u32 0]).alloc (.cells #[.slice (some ⟨g,o,none⟩) n c] 44);rw [World.size_alloc,World.size_alloc] at this;exact this
 have b4:Blk W0 (w.heap.size + 3) 44 #[.slice (some ⟨g,o,none⟩) n c]:=by
  rw [<- hW0];have:=Blk.new (((w.alloc (.cells #[.slice (some ⟨g,o,none⟩) n c] 44)).alloc (.cells #[.int .u32 (d:Int)] 86)).alloc (.cells #[.int .u32 0] 86)) 44 #[.slice (some ⟨g,o,none⟩) n c];rw [World.size_alloc,World.size_alloc,World.size_alloc] at this;exact this
 have hI0:DMem w g o n c d L R xs 0 W0:=⟨b1,b2,⟨0,xs,⟨HX.out,hd,fun _ _ => rfl,by rw [Nat.sub_zero,List.drop_eq_nil_of_le (by rw [HX.out]; omega)]; simp [U],by rw [Nat.sub_zero,List.drop_eq_nil_of_le (by rw [HX.out]; omega)]; simp [U]⟩,b3,hwin0⟩,below_then hB0 (World.grownBy.refl _ _)⟩
 have hrA:=hwin0.reads HL.out;have hgo:=backw_goes Fence.wide 4 trivial rfl (by omega) (w.heap.size + 3) (some ⟨g,o,none⟩) xs n c W0 HX.out hrA hn hc (b4.cell 0);have HI0:=qz hI0;clear b1 b2 b3 b4 hI0 hwin0;go_wp2_with fail;clear hW0;refine (wpIn_wide (n:=5)).1 ?_
 refine wpIn_rangeFunc_goes rfl (by omega) (gf:=84) (lb:=#[.pointer (some ⟨w.heap.size + 3,0,none⟩)]) rfl trivial (enters_of Tryz.func84 (by kernel_rfl) rfl)
  hgo (bkeep_lt HX.out hrA (by omega)) (Below.refl _ _) (fun _ => rfl)
  (fun k W => DMem w g o n c d L R xs k W) (fun _ _ _ => False)
  (fun s X Y row hs hg hr => DMem.kept hs hg (by omega) hr) (fun _ _ _ _ _ hs _ _ => hs) HI0.out ?round ?done ?stop
 case round =>
  intro l k W hk _;simp only [benc];gi_wp2;refine ⟨trivial,?_⟩;intro W hm;obtain ⟨p,hp⟩:=exq (n - 1 - k);have hpn:p < n:=by omega
  rw [hp];obtain ⟨rest,zs,hdd,hb3,hwn⟩:=hm.rest;have c1:=hm.one.cell 0;have c2:=hm.two.cell 0;have c3:=hb3.cell 0;have f3:=hb3.frozen 0;have fp:=hwn.frozen (o + p);have cp:=hwn.cell HL.out (k:=p) (by rw [hdd.1]; exact hpn);have hxp:=hd.nth p;have hrd:rest < d:=by rw [hdd.2.2.2.2]; exact Nat.mod_lt _ hd0
  have HST:=qz (hdd.step hk hp hd0 hdb hd);have HP:=qz hp;have HDD:=qz hdd;have HWN:=qz hwn;have HB3:=qz hb3;have HM:=qz hm;clear hdd hwn hb3 hm hp;have hp0:(0:Int)<=(p:Int):=by omega
  have hp1:(p:Int) < (n:Int):=by omega
  have dv:=fun wz => div32_any rest (nth xs p) d wz hrd hdb hxp
  obtain ⟨q,hq⟩:=exq ((rest * 4294967296 + nth xs p) / d);obtain ⟨r,hr⟩:=exq ((rest * 4294967296 + nth xs p) % d);simp only [hq,hr] at dv HST;clear hq hr;gi_wp2_with fail
  refine round_held (S:=fun w' => w'.cell? ⟨w.heap.size,0,none⟩ = some (.slice (some ⟨g,o,none⟩) n c)/\w'.cell? ⟨w.heap.size + 1,0,none⟩ = some (.int .u32 (d:Int))) (by kernel_rfl) (by kernel_rfl) (fun h => by obtain ⟨_,_,h⟩:=h; exact h) ⟨c1,c2⟩ (fun hHeld => ?_)
  refine wpAnyH_take (i:=0) (v:=?_) rfl (by kernel_rfl) (by kernel_rfl) (by kernel_rfl) (fun _ _ _ h => h) (Or.inl ⟨by rfl,fun w hS => ?_⟩) (by assumption) ?_;rotate_left
  ·
   dsimp only at hS;go_simp
   try with_reducible rfl
  dsimp only [Act.put]
  try simp only [List.setIfInBounds_toArray,List.set_cons_zero,List.set_cons_succ]
  refine wpAnyH_take (i:=1) (v:=?_) rfl (by kernel_rfl) (by kernel_rfl) (by kernel_rfl) (fun _ _ _ h => h) (Or.inl ⟨by rfl,fun w hS => ?_⟩) (by assumption) ?_;rotate_left
  ·
   dsimp only at hS;go_simp
   try with_reducible rfl
  dsimp only [Act.put]
  try simp only [List.setIfInBounds_toArray,List.set_cons_zero,List.set_cons_succ]
  refine wpAnyH_take (i:=3) (v:=?_) rfl (by kernel_rfl) (by kernel_rfl) (by kernel_rfl) (fun _ _ _ h => h) (Or.inl ⟨by rfl,fun w hS => ?_⟩) (by assumption) ?_;rotate_left
  ·
   dsimp only at hS;go_simp
   try with_reducible rfl
  dsimp only [Act.put]
  try simp only [List.setIfInBounds_toArray,List.set_cons_zero,List.set_cons_succ]
  refine wpAnyH_take (i:=4) (v:=?_) rfl (by kernel_rfl) (by kernel_rfl) (by kernel_rfl) (fun _ _ _ h => h) (Or.inl ⟨by rfl,fun w hS => ?_⟩) (by assumption) ?_;rotate_left
  ·
   dsimp only at hS;go_simp
   try with_reducible rfl
  dsimp only [Act.put]
  try simp only [List.setIfInBounds_toArray,List.set_cons_zero,List.set_cons_succ]
  refine wpAnyH_ready (rs:=[2]) (by kernel_rfl) (by simp) (AllReadyH.cons rfl (fun K hK => ?_) AllReadyH.nil);go_simp;refine hK.out _ _ (by assumption) (fun hHeld2 => ?_);clear hK K;refine wpAnyH_ready (rs:=[5]) (by kernel_rfl) (by simp) (AllReadyH.cons rfl (fun K hK => ?_) AllReadyH.nil);go_simp;refine (dv _).mono ?_;rintro e w' ⟨rfl,n1,rfl⟩
  refine hK.out _ _ ⟨c1,c2⟩ (fun hHeld3 => ?_);clear hK K;refine wpAnyH_take (i:=6) (v:=?_) rfl (by kernel_rfl) (by kernel_rfl) (by kernel_rfl) (fun _ _ _ h => h) (Or.inl ⟨by rfl,fun w hS => ?_⟩) (by assumption) ?_;rotate_left
  ·
   dsimp only at hS;go_simp
   try with_reducible rfl
  dsimp only [Act.put]
  try simp only [List.setIfInBounds_toArray,List.set_cons_zero,List.set_cons_succ]
  refine wpAnyH_take (i:=7) (v:=?_) rfl (by kernel_rfl) (by kernel_rfl) (by kernel_rfl) (fun _ _ _ h => h) (Or.inl ⟨by rfl,fun w hS => ?_⟩) (by assumption) ?_;rotate_left
  ·
   dsimp only at hS;go_simp
   try with_reducible rfl
  dsimp only [Act.put]
  try simp only [List.setIfInBounds_toArray,List.set_cons_zero,List.set_cons_succ]
  refine wpAnyH_take (i:=8) (v:=?_) rfl (by kernel_rfl) (by kernel_rfl) (by kernel_rfl) (fun _ _ _ h => h) (Or.inl ⟨by rfl,fun w hS => ?_⟩) (by assumption) ?_;rotate_left
  ·
   dsimp only at hS;go_simp
   try with_reducible rfl
  dsimp only [Act.put]
  try simp only [List.setIfInBounds_toArray,List.set_cons_zero,List.set_cons_succ]
  refine wpAnyH_take (i:=9) (v:=?_) rfl (by kernel_rfl) (by kernel_rfl) (by kernel_rfl) (fun _ _ _ h => h) (Or.inl ⟨by rfl,fun w hS => ?_⟩) (by assumption) ?_;rotate_left
  ·
   dsimp only at hS;go_simp
   try with_reducible rfl
  dsimp only [Act.put]
  try simp only [List.setIfInBounds_toArray,List.set_cons_zero,List.set_cons_succ]
  refine wpAnyH_ready (rs:=[10]) (by kernel_rfl) (by simp) (AllReadyH.cons rfl (fun K hK => ?_) AllReadyH.nil);go_simp;obtain ⟨m1,hm1⟩:=exq (1 + n1);rw [hm1];obtain ⟨W1,hW1⟩:=exq ((W.drewN m1).setCell ⟨g,o + p,none⟩ (.int .u32 (q:Int)))
  have c11:W1.cell? ⟨w.heap.size,0,none⟩ = some (.slice (some ⟨g,o,none⟩) n c):=by rw [<- hW1]; exact (World.cell?_setCell_other _ _ _ _ (by intro e; injection e; omega)).trans c1
  have c12:W1.cell? ⟨w.heap.size + 1,0,none⟩ = some (.int .u32 (d:Int)):=by rw [<- hW1]; exact (World.cell?_setCell_other _ _ _ _ (by intro e; injection e; omega)).trans c2
  have c13:W1.cell? ⟨w.heap.size + 2,0,none⟩ = some (.int .u32 (rest:Int)):=by rw [<- hW1]; exact (World.cell?_setCell_other _ _ _ _ (by intro e; injection e; omega)).trans c3
  have f13:W1.frozen? ⟨w.heap.size + 2,0,none⟩ = false:=by rw [<- hW1,World.frozen?_setCell]; exact f3
  have HD1:Hid (Win W1 g 86 L (zs.set p q) R/\Blk W1 w.heap.size 44 #[.slice (some ⟨g,o,none⟩) n c]/\Blk W1 (w.heap.size + 1) 86 #[.int .u32 (d:Int)]/\Blk W1 (w.heap.size + 2) 86 #[.int .u32 (rest:Int)]/\w.grownBy W1 (some g)/\KeepsOthers W W1/\Same (bkeep (w.heap.size + 3) (some ⟨g,o,none⟩) n k) W W1):=qz (by
   rw [<- hW1];have hwn:Win (W.drewN m1) g 86 L zs R:=HWN.out;refine ⟨hwn.put HL.out (by rw [HDD.out.1]; exact hpn) rfl,?_,?_,?_,?_,(KeepsOthers.drewN W m1).trans (KeepsOthers.setCell _ _ _),(Same.drewN m1).trans (Same.setCell' (fun a ha e => ?_) _)⟩
   · exact Blk.far (w:=W.drewN m1) HM.out.one (by show w.heap.size≠g; omega) _
   · exact Blk.far (w:=W.drewN m1) HM.out.two (by show w.heap.size + 1≠g; omega) _
   · exact Blk.far (w:=W.drewN m1) HB3.out (by show w.heap.size + 2≠g; omega) _
   · exact wrote_set (w:=W.drewN m1) (wrote_more HM.out.wrote (⟨rfl,rfl,rfl,Nat.le_refl _,fun _ _ _ => rfl⟩:W.grownBy (W.drewN m1) none) (fun r e => by cases e)) _ _
   ·
    rcases ha with rfl | ⟨b,o',j,hA,hj,rfl⟩
    · injection e; omega
    ·
     injection hA with hA
     injection hA with h1 h2
     injection e with _ e2
     have:=HP.out
     omega)
  rw [hW1];clear hm1 hW1;refine hK.out _ _ ⟨c11,c12⟩ (fun hHeld4 => ?_);clear hK K;refine wpAnyH_ready (rs:=[11]) (by kernel_rfl) (by simp) (AllReadyH.cons rfl (fun K hK => ?_) AllReadyH.nil);go_simp
  refine hK.out _ _ ⟨(World.cell?_setCell_other _ _ _ _ (by intro e; injection e; omega)).trans c11,(World.cell?_setCell_other _ _ _ _ (by intro e; injection e; omega)).trans c12⟩ (fun hHeld5 => ?_);clear hK K;refine wpAnyH_done (by kernel_rfl) ?_ _;obtain ⟨k1,k2,k3,k4,k5,k6,k7⟩:=HD1.out
  refine ⟨(k6.trans (KeepsOthers.setCell _ _ _)).from _,k7.trans (Same.setCell' (fun a ha e => ?_) _),?_⟩
  ·
   rcases ha with rfl | ⟨b,o',j,hA,hj,rfl⟩
   · injection e; omega
   ·
    injection hA with hA
    injection hA with h1 h2
    injection e with e1 _
    omega
  ·
   refine ⟨k2.far (by simp; omega) _,k3.far (by simp) _,⟨r,zs.set p q,HST.out,?_,k1.far_ (by simp; omega) _⟩,?_⟩
   ·
    have:=k4.set_ 0 (.int .u32 (r:Int));exact this
   · exact wrote_more k5 (grownBy_setCell' W1 (w.heap.size + 2) _) (fun r e => by cases e; omega)
 case done =>
  rintro D W hD hm hK;obtain ⟨rest,zs,⟨hzl,hzd,_,hzU,hzr⟩,hb3,hwn⟩:=hm.rest;rw [Nat.sub_self] at hzU hzr;have c3:=hb3.cell 0;have hD2:w.heap.size<=D:=by omega
  have HR:Hid (rest = U xs % d):=qz (by simpa using hzr);have HZU:Hid (U zs = U xs / d):=qz (by simpa using hzU);have HZL:=qz hzl;have HM:=qz hm;have HWN:=qz hwn;clear hzr hzU hzl hm hwn hb3;go_wp2_with fail;have hgD:W.grownBy (W.putObj D (.deferred none)) (some D):=grownBy_putObj' W D _
  exact leave_mark (v:=.int .u32 (rest:Int)) hK (by simp [results,Tryz.results128,go_sem]) ⟨zs,by rw [HR.out],HZL.out,hzd,HZU.out,HWN.out.kept hgD (fun r e => by cases e; exact ⟨_,hK,rfl⟩),wrote_more HM.out.wrote hgD (fun r e => by cases e; exact hD2)⟩
 case stop =>
  rintro D c k W _ _ h _;exact h.elim
end
section
open Go.RowKit
set_option maxRecDepth 100000
theorem Cn.of_ge {zs:List Nat} (h:Dg zs) (hz:zs≠[]->4294967296 ^ (zs.length - 1)<=U zs):Cn zs:=by
 refine ⟨h,fun hne h0 => ?_⟩;have h1:=hz hne;have hlen:=List.length_pos_iff.2 hne;have h2:=U_take_succ zs (zs.length - 1);rw [U_take_all zs _ (by omega),h0] at h2;have h3:=U_lt (h.take (zs.length - 1));rw [show (zs.take (zs.length - 1)).length = zs.length - 1 by simp] at h3;omega
theorem U_zeros_app (xs:List Nat) (k:Nat):U (xs ++ List.replicate k 0) = U xs:=by
 rw [U_append]
 have:U (List.replicate k 0) = 0:=by
  induction k with
  | zero => rfl
  | succ n ih => rw [List.replicate_succ,U,ih]
 rw [this]; omega
theorem Dg.app {xs ys:List Nat} (h:Dg xs) (k:Dg ys):Dg (xs ++ ys):=fun d hd => by
 rcases List.mem_append.1 hd with h1 | h1
 · exact h d h1
 · exact k d h1
theorem Dg.zeros (k:Nat):Dg (List.replicate k 0):=fun d hd => by have:=(List.mem_replicate.1 hd).2; omega
theorem Cn.one_more {zs:List Nat} (h:Dg zs):Cn (zs ++ [1]):=Cn.snoc h (by omega) (by omega)
theorem U_one_more (zs:List Nat):U (zs ++ [1]) = U zs + 4294967296 ^ zs.length:=by rw [U_append]; simp [U]
theorem Ow.row {w:World} {B n c:Nat} {A:Option Addr} {xs:List Nat} (h:Ow w B (.slice A n c) n xs):(A = none/\n = 0/\c = 0/\xs = [])\/∃ g,A = some ⟨g,0,none⟩:=by
 rcases h.2 with ⟨h2,h3⟩ | ⟨g',cap,cur,hv,_⟩
 ·
  injection h2 with h4 h5 h6
  have:=h.len;exact .inl ⟨h4,h3,h6,List.eq_nil_of_length_eq_zero (by omega)⟩
 ·
  injection hv with h4 h5 h6
  exact .inr ⟨g',h4⟩
theorem addInto_nil (c2:Nat) (A2:Option Addr) (w:World):Calls Tryz.prog 115 #[.slice none 0 0,.slice A2 0 c2] w fun e w' => e = .returned (.int .u32 0)/\w = w':=by
 go_enter Tryz.func115,Tryz.ntmps115;go_wp2_with fail
 go_loop [5,6] (fun cv iv => cv = .int .u64 0/\iv = .int .i64 0) (fun _ _ => 0)
 case atStart => exact ⟨rfl,rfl⟩
 case round =>
  obtain ⟨rfl,rfl⟩:=hrel;go_wp2_with fail;go_ret;exact ⟨rfl,rfl⟩
def AddedOnto (w:World) (B:Nat) (a:Nat) (e:Ending) (w':World):Prop:=∃ v zs,e = .returned v/\Ow w' B v zs.length zs/\Cn zs/\U zs = a/\Below B w w'
theorem wrote_own_below {w w1:World} {B n:Nat} {v:Value} {xs:List Nat} (hg:w.grownBy w1 v.ownBlock) (how:Ow w B v n xs) (hB:B<=w.heap.size):Below B w w1 :=
 (Below.refl B w).grown hg hB (fun k hk => (World.ownsRow.lt how k hk).1)
theorem addOnto_any (B:Nat) (A:Option Addr) (c n:Nat) (xs:List Nat) (A2:Option Addr) (ys:List Nat) (n2 c2:Nat) (w:World) (hown:Ow w B (.slice A n c) n xs) (hx:Cn xs) (hy:Cn ys) (hl2:ys.length = n2) (hc:n<=c)
  (hr2:Ra w B A2 ys) (hB:B<=w.heap.size) (hn:n<=1000000) (hn2:n2<=1000000) :
  Calls Tryz.prog 97 #[.slice A n c,.slice A2 n2 c2] w (AddedOnto w B (U xs + U ys)):=by
 have hl:=hown.len;have HO:=qz hown;have HL:=qz hl;have HL2:=qz hl2;have HX:=qz hx;have HY:=qz hy;have hrow:=hown.row;clear hown hl hl2 hx hy;by_cases hlt:n < n2
 ·
  have hki:(n2:Int) - (n:Int) = ((n2 - n:Nat):Int):=by omega
  have HK:=qz hki;clear hki;go_enter Tryz.func97,Tryz.ntmps97;go_wp2_with (at_builtin; go_loud (refine wpList_append_zeros32 _ rfl (.tmp 11) (.tmp 16) 44 3 rfl B 86 Tryz.underlying44 Tryz.underlying3 info_u32 (.slice A n c) n (n2 - n) xs rfl HO.out ((n2:Int) - (n:Int)) HK.out rfl (by omega) (by omega) hB ?_); intro A' n' c' w1 hn1 hc1 hown1 hg1)
  have hn':n' = n2:=by have:=hn1.out; omega
  subst hn';have hB1:=wrote_own_below hg1 HO.out hB
  obtain ⟨g,rfl⟩:∃ g,A' = some ⟨g,0,none⟩:=by
   rcases Ow.row (xs:=xs ++ List.replicate (n' - n) 0) hown1.out with ⟨_,h,_⟩ | h
   · omega
   · exact h
  obtain ⟨xs',hxs'⟩:∃ z,xs ++ List.replicate (n' - n) 0 = z:=⟨_,rfl⟩
  have how1:Ow w1 B (.slice (some ⟨g,0,none⟩) n' c') n' xs':=by rw [<- hxs']; exact hown1.out
  have HD':Hid (Dg xs'):=qz (by rw [<- hxs']; exact HX.out.1.app (Dg.zeros _));have HXU:Hid (U xs' = U xs):=qz (by rw [<- hxs',U_zeros_app]);have HGE:Hid (4294967296 ^ (n' - 1)<=U xs + U ys):=qz (by have:=U_ge HY.out (by intro h; have:=HL2.out; rw [h] at this; simp at this; omega); rw [HL2.out] at this; omega);have hn2':n'<=n':=Nat.le_refl _
  clear hxs' hown1 hg1 hn1 HO;have hlen':xs'.length = n':=how1.len;obtain ⟨R,hw,hBg,hcap,hmax⟩:=how1.win;have hgl:=hw.lt;have HLN:=qz hlen';clear hlen' how1;refine (addInto_any g 0 [] R xs' ys n' c' n' c2 A2 w1 HLN.out HL2.out rfl hw ((hr2.below hB1 (Nat.le_refl _)).more hBg) HD'.out HY.out.1 (by omega) hn2' hc1).mono ?_
  rintro e w2 ⟨ov,zs,rfl,hzl,hzd,hzU,hov,hwin,hgr⟩;have hB2:Below B w w2:=hB1.trans (wrote_below hgr hBg hgl);have hBs:=hB2.size;have how2:Ow w2 B (.slice (some ⟨g,0,none⟩) n' c') n' zs:=Ow.of_win hwin hzl hBg hcap hmax;have HOW:=qz how2;have HZL:=qz hzl;have HCAP:=qz hcap;clear how2 hzl hw hcap hwin;rcases (show ov = 0\/ov = 1 by omega) with rfl | rfl
  ·
   have hu:U zs = U xs + U ys:=by have:=HXU.out; omega
   have hcz:Cn zs:=Cn.of_ge hzd (fun _ => by rw [HZL.out,hu]; exact HGE.out);have HU:=qz hu;clear hu hzU;go_wp2_with fail;go_ret;exact ⟨_,zs,rfl,by rw [HZL.out]; exact HOW.out,hcz,HU.out,hB2⟩
  ·
   have hu:U (zs ++ [1]) = U xs + U ys:=by rw [U_one_more,HZL.out]; have:=HXU.out; omega
   have HU:=qz hu;have ho3:=HOW.out.below ((Below.refl _ w2).alloc (Nat.le_refl _) (.cells #[.int .u32 1] 86));have HO3:Hid (World.ownsRow (w2.alloc (.cells #[.int .u32 1] 86)) B 86 1 (.slice (some ⟨g,0,none⟩) n' c') zs.length (u32s zs)):=qz (by rw [HZL.out]; exact ho3)
   have HR1:Hid (Ra (w2.alloc (.cells #[.int .u32 1] 86)) (w2.heap.size + 1) (some ⟨w2.heap.size,0,none⟩) [1]):=qz (by simpa using Ra.one w2 1 86);clear hu hzU ho3
   go_wp2_with (at_builtin; go_loud (refine wpList_append_u32s _ rfl (.tmp 23) (.tmp 25) 44 rfl B 86 Tryz.underlying44 info_u32 (.slice (some ⟨g,0,none⟩) n' c') zs rfl HO3.out (w2.heap.size + 1) (some ⟨w2.heap.size,0,none⟩) 1 [1] _ rfl rfl HR1.out (by have:=HZL.out; simp; omega) (by simp; omega) ?_); intro A4 n4 c4 w4 hl4 hc4 hown4 hg4);go_ret
   exact ⟨_,zs ++ [1],rfl,by rw [hl4.out]; exact hown4.out,Cn.one_more hzd,HU.out,(hB2.alloc (by omega) _).grown hg4 (by simp; omega) (by intro k hk; simp [Value.ownBlock] at hk; omega)⟩
 ·
  rcases hrow with ⟨rfl,rfl,rfl,rfl⟩ | ⟨g,rfl⟩
  ·
   obtain rfl:n2 = 0:=by omega
   have hys:ys = []:=List.eq_nil_of_length_eq_zero HL2.out;have HYS:=qz hys;clear hys;go_enter Tryz.func97,Tryz.ntmps97;go_wp2_with fail;refine (addInto_nil c2 A2 w).mono ?_;rintro e w2 ⟨rfl,rfl⟩;go_wp2_with fail;go_ret;exact ⟨_,[],rfl,Ow.nil _ _,Cn.nil,by rw [HYS.out]; rfl,Below.refl _ _⟩
  obtain ⟨n',hn'⟩:∃ n',n' = n:=⟨_,rfl⟩
  obtain ⟨c',hc'⟩:∃ c',c' = c:=⟨_,rfl⟩
  obtain ⟨xs',hxs'⟩:∃ xs',xs' = xs:=⟨_,rfl⟩
  obtain ⟨w1,hw1⟩:∃ w1,w1 = w:=⟨_,rfl⟩
  subst hn' hc' hxs' hw1;have how1:=HO.out;have hB1:Below B w1 w1:=Below.refl _ _;have hc1:=hc;have HD':Hid (Dg xs'):=qz HX.out.1;have HXU:Hid (U xs' = U xs'):=qz rfl;have HGE:Hid (xs'≠[]->4294967296 ^ (n' - 1)<=U xs' + U ys):=qz (fun h => by have:=U_ge HX.out h; rw [HL.out] at this; omega);have hn2':n2<=n':=by omega
  go_enter Tryz.func97,Tryz.ntmps97;go_wp2_with fail;clear HO;have hlen':xs'.length = n':=how1.len;obtain ⟨R,hw,hBg,hcap,hmax⟩:=how1.win;have hgl:=hw.lt;have HLN:=qz hlen';clear hlen' how1;refine (addInto_any g 0 [] R xs' ys n' c' n2 c2 A2 w1 HLN.out HL2.out rfl hw ((hr2.below hB1 (Nat.le_refl _)).more hBg) HD'.out HY.out.1 (by omega) hn2' hc1).mono ?_
  rintro e w2 ⟨ov,zs,rfl,hzl,hzd,hzU,hov,hwin,hgr⟩;have hB2:Below B w1 w2:=hB1.trans (wrote_below hgr hBg hgl);have hBs:=hB2.size;have how2:Ow w2 B (.slice (some ⟨g,0,none⟩) n' c') n' zs:=Ow.of_win hwin hzl hBg hcap hmax;have HOW:=qz how2;have HZL:=qz hzl;have HCAP:=qz hcap;clear how2 hzl hw hcap hwin;rcases (show ov = 0\/ov = 1 by omega) with rfl | rfl
  ·
   have hu:U zs = U xs' + U ys:=by have:=HXU.out; omega
   have hcz:Cn zs:=Cn.of_ge hzd (fun hne => by rw [HZL.out,hu]; refine HGE.out (fun h => ?_); have h1:=HLN.out; rw [h] at h1; have h2:=List.length_pos_iff.2 hne; have:=HZL.out; simp at h1; omega);have HU:=qz hu;clear hu hzU;go_wp2_with fail;go_ret;exact ⟨_,zs,rfl,by rw [HZL.out]; exact HOW.out,hcz,HU.out,hB2⟩
  ·
   have hu:U (zs ++ [1]) = U xs' + U ys:=by rw [U_one_more,HZL.out]; have:=HXU.out; omega
   have HU:=qz hu;have ho3:=HOW.out.below ((Below.refl _ w2).alloc (Nat.le_refl _) (.cells #[.int .u32 1] 86));have HO3:Hid (World.ownsRow (w2.alloc (.cells #[.int .u32 1] 86)) B 86 1 (.slice (some ⟨g,0,none⟩) n' c') zs.length (u32s zs)):=qz (by rw [HZL.out]; exact ho3)
   have HR1:Hid (Ra (w2.alloc (.cells #[.int .u32 1] 86)) (w2.heap.size + 1) (some ⟨w2.heap.size,0,none⟩) [1]):=qz (by simpa using Ra.one w2 1 86);clear hu hzU ho3
   go_wp2_with (at_builtin; go_loud (refine wpList_append_u32s _ rfl (.tmp 23) (.tmp 25) 44 rfl B 86 Tryz.underlying44 info_u32 (.slice (some ⟨g,0,none⟩) n' c') zs rfl HO3.out (w2.heap.size + 1) (some ⟨w2.heap.size,0,none⟩) 1 [1] _ rfl rfl HR1.out (by have:=HZL.out; simp; omega) (by simp; omega) ?_); intro A4 n4 c4 w4 hl4 hc4 hown4 hg4);go_ret
   exact ⟨_,zs ++ [1],rfl,by rw [hl4.out]; exact hown4.out,Cn.one_more hzd,HU.out,(hB2.alloc (by omega) _).grown hg4 (by simp; omega) (by intro k hk; simp [Value.ownBlock] at hk; omega)⟩
end
section
open Go.RowKit Go.Shelf
set_option maxRecDepth 100000
attribute [local go_sem] Oper.semAt_some
theorem Same.of_written {S:Addr->Prop} {W W':World} {row:Option Nat} (hg:W.grownBy W' row) (hS:∀ p,S p->some p.block≠row):Same S W W' :=
 ⟨hg.size,fun p _ hp hv => hg.cell hv (hS p hp)⟩
theorem KeepsOthers.of_below {W W':World} (h:Below W.heap.size W W'):KeepsOthers W W':=⟨h.size,fun k _ hk _ => (h.block k (Array.getElem?_eq_some_iff.1 hk).1).trans hk⟩
section
variable {P:Program} (w:World)
end
end
section
open Go.RowKit
set_option maxRecDepth 100000
theorem held_set1 {wb W:World} {p:Addr} {u x:Value} {g:Nat} (hg:wb.heap.size<=g) (hp:p.block < wb.heap.size) (h:W.cell? p = some u/\Below wb.heap.size wb W) :
  (W.setCell ⟨g,0,none⟩ x).cell? p = some u/\Below wb.heap.size wb (W.setCell ⟨g,0,none⟩ x) :=
 ⟨(World.cell?_setCell_other W _ _ _ (fun e => by rw [<- e] at hp; simp at hp; omega)).trans h.1,h.2.setCell hg _⟩
theorem b1 (w:World) (o:Obj):Below w.heap.size w (w.alloc o):=(Below.refl _ _).alloc (Nat.le_refl _) _
theorem b2 (w:World) (a b:Obj):Below w.heap.size w ((w.alloc a).alloc b):=((Below.refl _ _).alloc (Nat.le_refl _) _).alloc (by simp) _
theorem snd_of {wb W:World} {p:Addr} {u:Value} (h:W.cell? p = some u/\Below wb.heap.size wb W):Below wb.heap.size wb W:=h.2
end
end Go.Proofs.YtkdmnlihpebbkaaGreat
