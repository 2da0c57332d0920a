/-
  SaidWorthKeeps, part 11 of 30: what the theorem worthKeeps_holds reaches.
-/
import Derived.Test.YtgopgbfgbddggaaGreatWK10
import Derived.Deep.QuietTactic
import Derived.BigQuiet
import Derived.Lib.AppendStr
import Derived.Outline
import Derived.ProofKit
import Derived.Lib.ItoaMem
import Derived.Lib.AppendIntMem
import Derived.Deep.DeepCutAuto
import Derived.Lib.ConvBytes
import Derived.Lib.AtoiErrMem
import Derived.Lib.ParseIntB
set_option linter.all false
namespace Go.Proofs.YtgopgbfgbddggaaGreat
open Go.RowKit Go.Shelf
set_option maxRecDepth 100000
attribute [local go_sem] Oper.semAt_some
theorem div32_bounds {h l y:Nat} (hy:h < y) (hyb:y < 4294967296) (hl:l < 4294967296):(h * 4294967296 + l) / y < 4294967296∧(h * 4294967296 + l) % y < y:=by
 refine ⟨?_,Nat.mod_lt _ (by omega)⟩
 rw [Nat.div_lt_iff_lt_mul (by omega)]
 have:(h + 1) * 4294967296≤y * 4294967296:=Nat.mul_le_mul_right _ hy
 rw [Nat.mul_comm 4294967296 y]
 omega
theorem or_hl {h l:Nat} (hh:h < 4294967296) (hl:l < 4294967296):bits .or .u64 ((h:Int) * 4294967296) (l:Int) = ((h * 4294967296 + l:Nat):Int):=by
 rw [show (h:Int) * 4294967296 = ((h * 4294967296:Nat):Int) by omega,or_low32 h l hh hl]
set_option maxHeartbeats 2000000 in
theorem div32_any (h l y:Nat) (w:World) (hy:h < y) (hyb:y < 4294967296) (hl:l < 4294967296) :
  Calls Tryz.prog 137 #[.int .u32 (h:Int),.int .u32 (l:Int),.int .u32 (y:Int)] w fun e w' =>
   e = .returned (.tuple #[.int .u32 (((h * 4294967296 + l) / y:Nat):Int),.int .u32 (((h * 4294967296 + l) % y:Nat):Int)])∧∃ n,w' = w.drewN n:=by
 obtain ⟨hq,hr⟩:=div32_bounds hy hyb hl
 obtain ⟨T,hT⟩:∃ T,h * 4294967296 + l = T:=⟨_,rfl⟩
 obtain ⟨q,hq0⟩:∃ q,T / y = q:=⟨_,rfl⟩
 obtain ⟨r,hr0⟩:∃ r,T % y = r:=⟨_,rfl⟩
 have hor:bits .or .u64 ((h:Int) * 4294967296) (l:Int) = (T:Int):=by rw [or_hl (by omega) hl,hT]
 have hTb:T < 18446744073709551616:=by omega
 rw [hT,hq0] at hq
 rw [hT,hr0] at hr
 rw [hT,hq0,hr0]
 have y0:¬ (y:Int) = 0:=by omega
 have ed:(T:Int).tdiv (y:Int) = (q:Int):=by rw [Int.tdiv_eq_ediv_of_nonneg (by omega),← hq0]; rfl
 have em:(T:Int).tmod (y:Int) = (r:Int):=by rw [Int.tmod_eq_emod_of_nonneg (by omega),← hr0]; rfl
 have yne:((y:Int) != 0) = true:=by simp; omega
 have yle:decide ((y:Int)≤(h:Int)) = false:=by simp; omega
 have wy:IntKind.u64.wrap (y:Int) = y:=IntWalk.u64_in _ (by omega)
 have wq:IntKind.u64.wrap (q:Int) = q:=IntWalk.u64_in _ (by omega)
 have wq2:IntKind.u32.wrap (q:Int) = q:=IntWalk.u32_in _ (by omega)
 have wr2:IntKind.u32.wrap (r:Int) = r:=IntWalk.u32_in _ (by omega)
 have wr3:IntKind.u64.wrap (r:Int) = r:=IntWalk.u64_in _ (by omega)
 have yb0:((y:Int) == 0) = false:=by simp; omega
 clear hT hq0 hr0
 go_enter Tryz.func137,Tryz.ntmps137
 go_wp2_with fail
 go_quiet (fail)
 go_wp2_with fail
 go_ret2
 exact ⟨rfl,_,rfl⟩
def DivD (xs zs:List Nat) (n d k rest:Nat):Prop :=
 zs.length = n∧Dg zs∧(∀ j,j < n - k→nth zs j = nth xs j)∧U (zs.drop (n - k)) = U (xs.drop (n - k)) / d∧rest = U (xs.drop (n - k)) % d
theorem DivD.step {xs zs:List Nat} {n d k rest p:Nat} (h:DivD xs zs n d k rest) (hk:k < n) (hp:n - 1 - k = p) (hd:0 < d) (hd2:d < 4294967296) (hx:Dg xs) :
  DivD xs (zs.set p ((rest * 4294967296 + nth xs p) / d)) n d (k + 1) ((rest * 4294967296 + nth xs p) % d):=by
 obtain ⟨h1,h2,h3,h4,h5⟩:=h
 have hr:rest < d:=by rw [h5]; exact Nat.mod_lt _ hd
 obtain ⟨hq,_⟩:=div32_bounds hr hd2 (hx.nth p)
 have e1:n - (k + 1) = p:=by omega
 have e2:n - k = p + 1:=by omega
 rw [e2] at h3 h4 h5
 rw [DivD,e1]
 have hdx:=U_drop xs p
 have key:U (xs.drop p) = (rest * 4294967296 + nth xs p) + d * (4294967296 * (U (xs.drop (p + 1)) / d)):=by
  rw [hdx]
  have:=Nat.div_add_mod (U (xs.drop (p + 1))) d
  rw [← h5] at this
  generalize U (xs.drop (p + 1)) / d = Q at *
  generalize U (xs.drop (p + 1)) = X at *
  subst this
  grind
 refine ⟨by simp [h1],h2.set hq,fun j hj => by rw [nth_set32 (by omega),if_neg (by omega)]; exact h3 j (by omega),?_,?_⟩
 ·
  have hdz:=U_drop (zs.set p ((rest * 4294967296 + nth xs p) / d)) p
  rw [nth_set32 (by omega),if_pos rfl,nth_drop_ext (a:=zs.set p ((rest * 4294967296 + nth xs p) / d)) (b:=zs) (k:=p + 1) (by simp) (fun j hj => by rw [nth_set32 (by omega),if_neg (by omega)]),h4] at hdz
  rw [hdz,key,Nat.add_mul_div_left _ _ hd]
 · rw [key,Nat.add_mul_mod_self_left]
def DividedBy (w:World) (g:Nat) (L:List Value) (xs:List Nat) (R:List Value) (n d:Nat) (e:Ending) (w':World):Prop :=
 ∃ zs,e = .returned (.int .u32 ((U xs % d:Nat):Int))∧zs.length = n∧Dg zs∧U zs = U xs / d∧Win w' g 84 L zs R∧w.grownBy w' (some g)
structure DMem (w:World) (g o n c d:Nat) (L R:List Value) (xs:List Nat) (k:Nat) (W:World):Prop where
 one:Blk W w.heap.size 39 #[.slice (some ⟨g,o,none⟩) n c]
 two:Blk W (w.heap.size + 1) 84 #[.int .u32 (d:Int)]
 rest:∃ rest zs,DivD xs zs n d k rest∧Blk W (w.heap.size + 2) 84 #[.int .u32 (rest:Int)]∧Win W g 84 L zs R
 wrote:w.grownBy W (some g)
theorem DMem.kept {w:World} {g o n c d:Nat} {L R:List Value} {xs:List Nat} {k:Nat} {X Y:World} {row:Option Nat} (h:DMem w g o n c d L R xs k X) (hg:X.grownBy Y row) {B:Nat} (hB:w.heap.size≤B)
  (hr:∀ r,row = some r→B≤r∧∃ o:Obj,X.heap[r]? = some o∧o.isCells = false):DMem w g o n c d L R xs k Y:=by
 obtain ⟨rest,zs,h1,h2,h3⟩:=h.rest
 have hr2:∀ r,row = some r→∃ o:Obj,X.heap[r]? = some o∧o.isCells = false:=fun r e => (hr r e).2
 exact ⟨h.one.kept hg hr2,h.two.kept hg hr2,⟨rest,zs,h1,h2.kept hg hr2,h3.kept hg hr2⟩,wrote_more h.wrote hg (fun r e => by have:=(hr r e).1; omega)⟩
set_option maxHeartbeats 4000000 in
theorem divByDigit_any (g o:Nat) (L R:List Value) (xs:List Nat) (n c d:Nat) (w:World) (hx:xs.length = n) (hL:L.length = o) (hw:Win w g 84 L xs R)
  (hd:Dg xs) (hn:n≤10000000) (hc:n≤c) (hd0:0 < d) (hdb:d < 4294967296) :
  Calls Tryz.prog 129 #[.slice (some ⟨g,o,none⟩) n c,.int .u32 (d:Int)] w (DividedBy w g L xs R n d):=by
 have HX:=Lib.hid hx
 have HL:=Lib.hid hL
 have hgl:=hw.lt
 clear hx hL
 refine calls_of_leave Tryz.func129 rfl ?_
 simp only [Tryz.ntmps129,List.size_toArray,List.length_cons,List.length_nil,Nat.reduceAdd,Nat.reduceSub,Array.replicate_succ,Array.replicate_zero,List.push_toArray,List.append_toArray,List.nil_append,List.cons_append]
 go_wp2_with fail
 refine (backw_calls _ _ _ _).mono ?_
 rintro e w' ⟨rfl,rfl⟩
 obtain ⟨W0,hW0⟩:∃ W0,((((w.alloc (.cells #[.slice (some ⟨g,o,none⟩) n c] 39)).alloc (.cells #[.int .u32 (d:Int)] 84)).alloc (.cells #[.int .u32 0] 84)).alloc (.cells #[.slice (some ⟨g,o,none⟩) n c] 39)) = W0:=⟨_,rfl⟩
 have hs0:W0.heap.size = w.heap.size + 4:=by rw [← hW0]; simp
 have hB0:Below w.heap.size w W0:=by rw [← hW0]; exact (((((Below.refl _ w).alloc (Nat.le_refl _) _).alloc (by simp) _).alloc (by simp; omega) _).alloc (by simp; omega) _)
 have hwin0:Win W0 g 84 L xs R:=hw.below hB0 hgl
 have b1:Blk W0 w.heap.size 39 #[.slice (some ⟨g,o,none⟩) n c]:=by rw [← hW0]; exact (((Blk.new w _ _).alloc _).alloc _).alloc _
 have b2:Blk W0 (w.heap.size + 1) 84 #[.int .u32 (d:Int)]:=by
  rw [← hW0]
  have:=((Blk.new (w.alloc (.cells #[.slice (some ⟨g,o,none⟩) n c] 39)) 84 #[.int .u32 (d:Int)]).alloc (.cells #[.int .u32 0] 84)).alloc (.cells #[.slice (some ⟨g,o,none⟩) n c] 39)
  rw [World.size_alloc] at this
  exact this
 have b3:Blk W0 (w.heap.size + 2) 84 #[.int .u32 ((0:Nat):Int)]:=by
  rw [← hW0]
  have:=(Blk.new ((w.alloc (.cells #[.slice (some ⟨g,o,none⟩) n c] 39)).alloc (.cells #[.int .u32 (d:Int)] 84)) 84 #[.int .u32 0]).alloc (.cells #[.slice (some ⟨g,o,none⟩) n c] 39)
  rw [World.size_alloc,World.size_alloc] at this
  exact this
 have b4:Blk W0 (w.heap.size + 3) 39 #[.slice (some ⟨g,o,none⟩) n c]:=by
  rw [← hW0]
  have:=Blk.new (((w.alloc (.cells #[.slice (some ⟨g,o,none⟩) n c] 39)).alloc (.cells #[.int .u32 (d:Int)] 84)).alloc (.cells #[.int .u32 0] 84)) 39 #[.slice (some ⟨g,o,none⟩) n c]
  rw [World.size_alloc,World.size_alloc,World.size_alloc] at this
  exact this
 have hI0:DMem w g o n c d L R xs 0 W0:=⟨b1,b2,⟨0,xs,⟨HX.out,hd,fun _ _ => rfl,by rw [Nat.sub_zero,List.drop_eq_nil_of_le (by rw [HX.out]; omega)]; simp [U],by rw [Nat.sub_zero,List.drop_eq_nil_of_le (by rw [HX.out]; omega)]; simp [U]⟩,b3,hwin0⟩,below_then hB0 (World.grownBy.refl _ _)⟩
 have hrA:=hwin0.reads HL.out
 have hgo:=backw_goes Fence.wide 4 trivial rfl (by omega) (w.heap.size + 3) (some ⟨g,o,none⟩) xs n c W0 HX.out hrA hn hc (b4.cell 0)
 have HI0:=Lib.hid hI0
 clear b1 b2 b3 b4 hI0 hwin0
 go_wp2_with fail
 clear hW0
 refine (wpIn_wide (n:=5)).1 ?_
 refine wpIn_rangeFunc_goes rfl (by omega) (gf:=97) (lb:=#[.pointer (some ⟨w.heap.size + 3,0,none⟩)]) rfl trivial (enters_of Tryz.func97 (by kernel_rfl) rfl)
  hgo (bkeep_lt HX.out hrA (by omega)) (Below.refl _ _) (fun _ => rfl)
  (fun k W => DMem w g o n c d L R xs k W) (fun _ _ _ => False)
  (fun s X Y row hs hg hr => DMem.kept hs hg (by omega) hr) (fun _ _ _ _ _ hs _ _ => hs) HI0.out ?round ?done ?stop
 case round =>
  intro l k W hk _
  simp only [benc]
  gi_wp2
  refine ⟨trivial,?_⟩
  intro W hm
  obtain ⟨p,hp⟩:∃ p,n - 1 - k = p:=⟨_,rfl⟩
  have hpn:p < n:=by omega
  rw [hp]
  obtain ⟨rest,zs,hdd,hb3,hwn⟩:=hm.rest
  have c1:=hm.one.cell 0
  have c2:=hm.two.cell 0
  have c3:=hb3.cell 0
  have f3:=hb3.frozen 0
  have fp:=hwn.frozen (o + p)
  have cp:=hwn.cell HL.out (k:=p) (by rw [hdd.1]; exact hpn)
  have hxp:=hd.nth p
  have hrd:rest < d:=by rw [hdd.2.2.2.2]; exact Nat.mod_lt _ hd0
  have HST:=Lib.hid (hdd.step hk hp hd0 hdb hd)
  have HP:=Lib.hid hp
  have HDD:=Lib.hid hdd
  have HWN:=Lib.hid hwn
  have HB3:=Lib.hid hb3
  have HM:=Lib.hid hm
  clear hdd hwn hb3 hm hp
  have hp0:(0:Int)≤(p:Int):=by omega
  have hp1:(p:Int) < (n:Int):=by omega
  have dv:=fun wz => div32_any rest (nth xs p) d wz hrd hdb hxp
  obtain ⟨q,hq⟩:∃ q,(rest * 4294967296 + nth xs p) / d = q:=⟨_,rfl⟩
  obtain ⟨r,hr⟩:∃ r,(rest * 4294967296 + nth xs p) % d = r:=⟨_,rfl⟩
  simp only [hq,hr] at dv HST
  clear hq hr
  gi_wp2_with fail
  refine round_held (S:=fun w' => w'.cell? ⟨w.heap.size,0,none⟩ = some (.slice (some ⟨g,o,none⟩) n c)∧w'.cell? ⟨w.heap.size + 1,0,none⟩ = some (.int .u32 (d:Int))) (by kernel_rfl) (by kernel_rfl) (fun h => by obtain ⟨_,_,h⟩:=h; exact h) ⟨c1,c2⟩ (fun hHeld => ?_)
  refine wpAnyH_take (i:=0) (v:=?_) rfl (by kernel_rfl) (by kernel_rfl) (by kernel_rfl) (fun _ _ _ h => h) (Or.inl ⟨by rfl,fun w hS => ?_⟩) (by assumption) ?_
  rotate_left
  ·
   dsimp only at hS
   go_simp
   try with_reducible rfl
  dsimp only [Act.put]
  try simp only [List.setIfInBounds_toArray,List.set_cons_zero,List.set_cons_succ]
  refine wpAnyH_take (i:=1) (v:=?_) rfl (by kernel_rfl) (by kernel_rfl) (by kernel_rfl) (fun _ _ _ h => h) (Or.inl ⟨by rfl,fun w hS => ?_⟩) (by assumption) ?_
  rotate_left
  ·
   dsimp only at hS
   go_simp
   try with_reducible rfl
  dsimp only [Act.put]
  try simp only [List.setIfInBounds_toArray,List.set_cons_zero,List.set_cons_succ]
  refine wpAnyH_take (i:=3) (v:=?_) rfl (by kernel_rfl) (by kernel_rfl) (by kernel_rfl) (fun _ _ _ h => h) (Or.inl ⟨by rfl,fun w hS => ?_⟩) (by assumption) ?_
  rotate_left
  ·
   dsimp only at hS
   go_simp
   try with_reducible rfl
  dsimp only [Act.put]
  try simp only [List.setIfInBounds_toArray,List.set_cons_zero,List.set_cons_succ]
  refine wpAnyH_take (i:=4) (v:=?_) rfl (by kernel_rfl) (by kernel_rfl) (by kernel_rfl) (fun _ _ _ h => h) (Or.inl ⟨by rfl,fun w hS => ?_⟩) (by assumption) ?_
  rotate_left
  ·
   dsimp only at hS
   go_simp
   try with_reducible rfl
  dsimp only [Act.put]
  try simp only [List.setIfInBounds_toArray,List.set_cons_zero,List.set_cons_succ]
  refine wpAnyH_ready (rs:=[2]) (by kernel_rfl) (by simp) (AllReadyH.cons rfl (fun K hK => ?_) AllReadyH.nil)
  go_simp
  refine hK.out _ _ (by assumption) (fun hHeld2 => ?_)
  clear hK K
  refine wpAnyH_ready (rs:=[5]) (by kernel_rfl) (by simp) (AllReadyH.cons rfl (fun K hK => ?_) AllReadyH.nil)
  go_simp
  refine (dv _).mono ?_
  rintro e w' ⟨rfl,n1,rfl⟩
  refine hK.out _ _ ⟨c1,c2⟩ (fun hHeld3 => ?_)
  clear hK K
  refine wpAnyH_take (i:=6) (v:=?_) rfl (by kernel_rfl) (by kernel_rfl) (by kernel_rfl) (fun _ _ _ h => h) (Or.inl ⟨by rfl,fun w hS => ?_⟩) (by assumption) ?_
  rotate_left
  ·
   dsimp only at hS
   go_simp
   try with_reducible rfl
  dsimp only [Act.put]
  try simp only [List.setIfInBounds_toArray,List.set_cons_zero,List.set_cons_succ]
  refine wpAnyH_take (i:=7) (v:=?_) rfl (by kernel_rfl) (by kernel_rfl) (by kernel_rfl) (fun _ _ _ h => h) (Or.inl ⟨by rfl,fun w hS => ?_⟩) (by assumption) ?_
  rotate_left
  ·
   dsimp only at hS
   go_simp
   try with_reducible rfl
  dsimp only [Act.put]
  try simp only [List.setIfInBounds_toArray,List.set_cons_zero,List.set_cons_succ]
  refine wpAnyH_take (i:=8) (v:=?_) rfl (by kernel_rfl) (by kernel_rfl) (by kernel_rfl) (fun _ _ _ h => h) (Or.inl ⟨by rfl,fun w hS => ?_⟩) (by assumption) ?_
  rotate_left
  ·
   dsimp only at hS
   go_simp
   try with_reducible rfl
  dsimp only [Act.put]
  try simp only [List.setIfInBounds_toArray,List.set_cons_zero,List.set_cons_succ]
  refine wpAnyH_take (i:=9) (v:=?_) rfl (by kernel_rfl) (by kernel_rfl) (by kernel_rfl) (fun _ _ _ h => h) (Or.inl ⟨by rfl,fun w hS => ?_⟩) (by assumption) ?_
  rotate_left
  ·
   dsimp only at hS
   go_simp
   try with_reducible rfl
  dsimp only [Act.put]
  try simp only [List.setIfInBounds_toArray,List.set_cons_zero,List.set_cons_succ]
  refine wpAnyH_ready (rs:=[10]) (by kernel_rfl) (by simp) (AllReadyH.cons rfl (fun K hK => ?_) AllReadyH.nil)
  go_simp
  obtain ⟨m1,hm1⟩:∃ m,1 + n1 = m:=⟨_,rfl⟩
  rw [hm1]
  obtain ⟨W1,hW1⟩:∃ W1,(W.drewN m1).setCell ⟨g,o + p,none⟩ (.int .u32 (q:Int)) = W1:=⟨_,rfl⟩
  have c11:W1.cell? ⟨w.heap.size,0,none⟩ = some (.slice (some ⟨g,o,none⟩) n c):=by rw [← hW1]; exact (World.cell?_setCell_other _ _ _ _ (by intro e; injection e; omega)).trans c1
  have c12:W1.cell? ⟨w.heap.size + 1,0,none⟩ = some (.int .u32 (d:Int)):=by rw [← hW1]; exact (World.cell?_setCell_other _ _ _ _ (by intro e; injection e; omega)).trans c2
  have c13:W1.cell? ⟨w.heap.size + 2,0,none⟩ = some (.int .u32 (rest:Int)):=by rw [← hW1]; exact (World.cell?_setCell_other _ _ _ _ (by intro e; injection e; omega)).trans c3
  have f13:W1.frozen? ⟨w.heap.size + 2,0,none⟩ = false:=by rw [← hW1,World.frozen?_setCell]; exact f3
  have HD1:Hid (Win W1 g 84 L (zs.set p q) R∧Blk W1 w.heap.size 39 #[.slice (some ⟨g,o,none⟩) n c]∧Blk W1 (w.heap.size + 1) 84 #[.int .u32 (d:Int)]∧Blk W1 (w.heap.size + 2) 84 #[.int .u32 (rest:Int)]∧w.grownBy W1 (some g)∧KeepsOthers W W1∧Same (bkeep (w.heap.size + 3) (some ⟨g,o,none⟩) n k) W W1):=Lib.hid (by
   rw [← hW1]
   have hwn:Win (W.drewN m1) g 84 L zs R:=HWN.out
   refine ⟨hwn.put HL.out (by rw [HDD.out.1]; exact hpn) rfl,?_,?_,?_,?_,(KeepsOthers.drewN W m1).trans (KeepsOthers.setCell _ _ _),(Same.drewN m1).trans (Same.setCell' (fun a ha e => ?_) _)⟩
   · exact Blk.far (w:=W.drewN m1) HM.out.one (by show w.heap.size≠g; omega) _
   · exact Blk.far (w:=W.drewN m1) HM.out.two (by show w.heap.size + 1≠g; omega) _
   · exact Blk.far (w:=W.drewN m1) HB3.out (by show w.heap.size + 2≠g; omega) _
   · exact wrote_set (w:=W.drewN m1) (wrote_more HM.out.wrote (⟨rfl,rfl,rfl,Nat.le_refl _,fun _ _ _ => rfl⟩:W.grownBy (W.drewN m1) none) (fun r e => by cases e)) _ _
   ·
    rcases ha with rfl | ⟨b,o',j,hA,hj,rfl⟩
    · injection e; omega
    ·
     injection hA with hA
     injection hA with h1 h2
     injection e with _ e2
     have:=HP.out
     omega)
  rw [hW1]
  clear hm1 hW1
  refine hK.out _ _ ⟨c11,c12⟩ (fun hHeld4 => ?_)
  clear hK K
  refine wpAnyH_ready (rs:=[11]) (by kernel_rfl) (by simp) (AllReadyH.cons rfl (fun K hK => ?_) AllReadyH.nil)
  go_simp
  refine hK.out _ _ ⟨(World.cell?_setCell_other _ _ _ _ (by intro e; injection e; omega)).trans c11,(World.cell?_setCell_other _ _ _ _ (by intro e; injection e; omega)).trans c12⟩ (fun hHeld5 => ?_)
  clear hK K
  refine wpAnyH_done (by kernel_rfl) ?_ _
  obtain ⟨k1,k2,k3,k4,k5,k6,k7⟩:=HD1.out
  refine ⟨(k6.trans (KeepsOthers.setCell _ _ _)).from _,k7.trans (Same.setCell' (fun a ha e => ?_) _),?_⟩
  ·
   rcases ha with rfl | ⟨b,o',j,hA,hj,rfl⟩
   · injection e; omega
   ·
    injection hA with hA
    injection hA with h1 h2
    injection e with e1 _
    omega
  ·
   refine ⟨k2.far (by simp; omega) _,k3.far (by simp) _,⟨r,zs.set p q,HST.out,?_,k1.far_ (by simp; omega) _⟩,?_⟩
   ·
    have:=k4.set_ 0 (.int .u32 (r:Int))
    exact this
   · exact wrote_more k5 (grownBy_setCell' W1 (w.heap.size + 2) _) (fun r e => by cases e; omega)
 case done =>
  rintro D W hD hm hK
  obtain ⟨rest,zs,⟨hzl,hzd,_,hzU,hzr⟩,hb3,hwn⟩:=hm.rest
  rw [Nat.sub_self] at hzU hzr
  have c3:=hb3.cell 0
  have hD2:w.heap.size≤D:=by omega
  have HR:Hid (rest = U xs % d):=Lib.hid (by simpa using hzr)
  have HZU:Hid (U zs = U xs / d):=Lib.hid (by simpa using hzU)
  have HZL:=Lib.hid hzl
  have HM:=Lib.hid hm
  have HWN:=Lib.hid hwn
  clear hzr hzU hzl hm hwn hb3
  go_wp2_with fail
  have hgD:W.grownBy (W.putObj D (.deferred none)) (some D):=grownBy_putObj' W D _
  exact leave_mark (v:=.int .u32 (rest:Int)) hK (by simp [results,Tryz.results129,go_sem]) ⟨zs,by rw [HR.out],HZL.out,hzd,HZU.out,HWN.out.kept hgD (fun r e => by cases e; exact ⟨_,hK,rfl⟩),wrote_more HM.out.wrote hgD (fun r e => by cases e; exact hD2)⟩
 case stop =>
  rintro D c k W _ _ h _
  exact h.elim
end Go.Proofs.YtgopgbfgbddggaaGreat
namespace Go.Proofs.YtgopgbfgbddggaaGreat
open Go.RowKit
set_option maxRecDepth 100000
theorem Cn.of_ge {zs:List Nat} (h:Dg zs) (hz:zs≠[]→4294967296 ^ (zs.length - 1)≤U zs):Cn zs:=by
 refine ⟨h,fun hne h0 => ?_⟩
 have h1:=hz hne
 have hlen:=List.length_pos_iff.2 hne
 have h2:=U_take_succ zs (zs.length - 1)
 rw [U_take_all zs _ (by omega),h0] at h2
 have h3:=U_lt (h.take (zs.length - 1))
 rw [show (zs.take (zs.length - 1)).length = zs.length - 1 by simp] at h3
 omega
theorem U_zeros_app (xs:List Nat) (k:Nat):U (xs ++ List.replicate k 0) = U xs:=by
 rw [U_append]
 have:U (List.replicate k 0) = 0:=by
  induction k with
  | zero => rfl
  | succ n ih => rw [List.replicate_succ,U,ih]
 rw [this]; omega
theorem Dg.app {xs ys:List Nat} (h:Dg xs) (k:Dg ys):Dg (xs ++ ys):=fun d hd => by
 rcases List.mem_append.1 hd with h1 | h1
 · exact h d h1
 · exact k d h1
theorem Dg.zeros (k:Nat):Dg (List.replicate k 0):=fun d hd => by have:=(List.mem_replicate.1 hd).2; omega
theorem Cn.one_more {zs:List Nat} (h:Dg zs):Cn (zs ++ [1]):=Cn.snoc h (by omega) (by omega)
theorem U_one_more (zs:List Nat):U (zs ++ [1]) = U zs + 4294967296 ^ zs.length:=by rw [U_append]; simp [U]
theorem Ow.row {w:World} {B n c:Nat} {A:Option Addr} {xs:List Nat} (h:Ow w B (.slice A n c) n xs):(A = none∧n = 0∧c = 0∧xs = [])∨∃ g,A = some ⟨g,0,none⟩:=by
 rcases h.2 with ⟨h2,h3⟩ | ⟨g',cap,cur,hv,_⟩
 ·
  injection h2 with h4 h5 h6
  have:=h.len
  exact .inl ⟨h4,h3,h6,List.eq_nil_of_length_eq_zero (by omega)⟩
 ·
  injection hv with h4 h5 h6
  exact .inr ⟨g',h4⟩
theorem addInto_nil (c2:Nat) (A2:Option Addr) (w:World):Calls Tryz.prog 116 #[.slice none 0 0,.slice A2 0 c2] w fun e w' => e = .returned (.int .u32 0)∧w = w':=by
 go_enter Tryz.func116,Tryz.ntmps116
 go_wp2_with fail
 go_loop [5,6] (fun cv iv => cv = .int .u64 0∧iv = .int .i64 0) (fun _ _ => 0)
 case atStart => exact ⟨rfl,rfl⟩
 case round =>
  obtain ⟨rfl,rfl⟩:=hrel
  go_wp2_with fail
  go_ret
  exact ⟨rfl,rfl⟩
def AddedOnto (w:World) (B:Nat) (a:Nat) (e:Ending) (w':World):Prop:=∃ v zs,e = .returned v∧Ow w' B v zs.length zs∧Cn zs∧U zs = a∧Below B w w'
theorem wrote_own_below {w w1:World} {B n:Nat} {v:Value} {xs:List Nat} (hg:w.grownBy w1 v.ownBlock) (how:Ow w B v n xs) (hB:B≤w.heap.size):Below B w w1 :=
 (Below.refl B w).grown hg hB (fun k hk => (World.ownsRow.lt how k hk).1)
set_option maxHeartbeats 4000000 in
theorem addOnto_any (B:Nat) (A:Option Addr) (c n:Nat) (xs:List Nat) (A2:Option Addr) (ys:List Nat) (n2 c2:Nat) (w:World) (hown:Ow w B (.slice A n c) n xs) (hx:Cn xs) (hy:Cn ys) (hl2:ys.length = n2) (hc:n≤c)
  (hr2:Ra w B A2 ys) (hB:B≤w.heap.size) (hn:n≤1000000) (hn2:n2≤1000000) :
  Calls Tryz.prog 94 #[.slice A n c,.slice A2 n2 c2] w (AddedOnto w B (U xs + U ys)):=by
 have hl:=hown.len
 have HO:=Lib.hid hown
 have HL:=Lib.hid hl
 have HL2:=Lib.hid hl2
 have HX:=Lib.hid hx
 have HY:=Lib.hid hy
 have hrow:=hown.row
 clear hown hl hl2 hx hy
 by_cases hlt:n < n2
 ·
  have hki:(n2:Int) - (n:Int) = ((n2 - n:Nat):Int):=by omega
  have HK:=Lib.hid hki
  clear hki
  go_enter Tryz.func94,Tryz.ntmps94
  go_wp2_with (at_builtin; go_loud (refine wpList_append_zeros32 _ rfl (.tmp 11) (.tmp 16) 39 3 rfl B 84 Tryz.underlying39 Tryz.underlying3 info_u32 (.slice A n c) n (n2 - n) xs rfl HO.out ((n2:Int) - (n:Int)) HK.out rfl (by omega) (by omega) hB ?_); intro A' n' c' w1 hn1 hc1 hown1 hg1)
  have hn':n' = n2:=by have:=hn1.out; omega
  subst hn'
  have hB1:=wrote_own_below hg1 HO.out hB
  obtain ⟨g,rfl⟩:∃ g,A' = some ⟨g,0,none⟩:=by
   rcases Ow.row (xs:=xs ++ List.replicate (n' - n) 0) hown1.out with ⟨_,h,_⟩ | h
   · omega
   · exact h
  obtain ⟨xs',hxs'⟩:∃ z,xs ++ List.replicate (n' - n) 0 = z:=⟨_,rfl⟩
  have how1:Ow w1 B (.slice (some ⟨g,0,none⟩) n' c') n' xs':=by rw [← hxs']; exact hown1.out
  have HD':Hid (Dg xs'):=Lib.hid (by rw [← hxs']; exact HX.out.1.app (Dg.zeros _))
  have HXU:Hid (U xs' = U xs):=Lib.hid (by rw [← hxs',U_zeros_app])
  have HGE:Hid (4294967296 ^ (n' - 1)≤U xs + U ys):=Lib.hid (by have:=U_ge HY.out (by intro h; have:=HL2.out; rw [h] at this; simp at this; omega); rw [HL2.out] at this; omega)
  have hn2':n'≤n':=Nat.le_refl _
  clear hxs' hown1 hg1 hn1 HO
  have hlen':xs'.length = n':=how1.len
  obtain ⟨R,hw,hBg,hcap,hmax⟩:=how1.win
  have hgl:=hw.lt
  have HLN:=Lib.hid hlen'
  clear hlen' how1
  refine (addInto_any g 0 [] R xs' ys n' c' n' c2 A2 w1 HLN.out HL2.out rfl hw ((hr2.below hB1 (Nat.le_refl _)).more hBg) HD'.out HY.out.1 (by omega) hn2' hc1).mono ?_
  rintro e w2 ⟨ov,zs,rfl,hzl,hzd,hzU,hov,hwin,hgr⟩
  have hB2:Below B w w2:=hB1.trans (wrote_below hgr hBg hgl)
  have hBs:=hB2.size
  have how2:Ow w2 B (.slice (some ⟨g,0,none⟩) n' c') n' zs:=Ow.of_win hwin hzl hBg hcap hmax
  have HOW:=Lib.hid how2
  have HZL:=Lib.hid hzl
  have HCAP:=Lib.hid hcap
  clear how2 hzl hw hcap hwin
  rcases (show ov = 0∨ov = 1 by omega) with rfl | rfl
  ·
   have hu:U zs = U xs + U ys:=by have:=HXU.out; omega
   have hcz:Cn zs:=Cn.of_ge hzd (fun _ => by rw [HZL.out,hu]; exact HGE.out)
   have HU:=Lib.hid hu
   clear hu hzU
   go_wp2_with fail
   go_ret
   exact ⟨_,zs,rfl,by rw [HZL.out]; exact HOW.out,hcz,HU.out,hB2⟩
  ·
   have hu:U (zs ++ [1]) = U xs + U ys:=by rw [U_one_more,HZL.out]; have:=HXU.out; omega
   have HU:=Lib.hid hu
   have ho3:=HOW.out.below ((Below.refl _ w2).alloc (Nat.le_refl _) (.cells #[.int .u32 1] 84))
   have HO3:Hid (World.ownsRow (w2.alloc (.cells #[.int .u32 1] 84)) B 84 1 (.slice (some ⟨g,0,none⟩) n' c') zs.length (u32s zs)):=Lib.hid (by rw [HZL.out]; exact ho3)
   have HR1:Hid (Ra (w2.alloc (.cells #[.int .u32 1] 84)) (w2.heap.size + 1) (some ⟨w2.heap.size,0,none⟩) [1]):=Lib.hid (by simpa using Ra.one w2 1 84)
   clear hu hzU ho3
   go_wp2_with (at_builtin; go_loud (refine wpList_append_u32s _ rfl (.tmp 23) (.tmp 25) 39 rfl B 84 Tryz.underlying39 info_u32 (.slice (some ⟨g,0,none⟩) n' c') zs rfl HO3.out (w2.heap.size + 1) (some ⟨w2.heap.size,0,none⟩) 1 [1] _ rfl rfl HR1.out (by have:=HZL.out; simp; omega) (by simp; omega) ?_); intro A4 n4 c4 w4 hl4 hc4 hown4 hg4)
   go_ret
   exact ⟨_,zs ++ [1],rfl,by rw [hl4.out]; exact hown4.out,Cn.one_more hzd,HU.out,(hB2.alloc (by omega) _).grown hg4 (by simp; omega) (by intro k hk; simp [Value.ownBlock] at hk; omega)⟩
 ·
  rcases hrow with ⟨rfl,rfl,rfl,rfl⟩ | ⟨g,rfl⟩
  ·
   obtain rfl:n2 = 0:=by omega
   have hys:ys = []:=List.eq_nil_of_length_eq_zero HL2.out
   have HYS:=Lib.hid hys
   clear hys
   go_enter Tryz.func94,Tryz.ntmps94
   go_wp2_with fail
   refine (addInto_nil c2 A2 w).mono ?_
   rintro e w2 ⟨rfl,rfl⟩
   go_wp2_with fail
   go_ret
   exact ⟨_,[],rfl,Ow.nil _ _,Cn.nil,by rw [HYS.out]; rfl,Below.refl _ _⟩
  obtain ⟨n',hn'⟩:∃ n',n' = n:=⟨_,rfl⟩
  obtain ⟨c',hc'⟩:∃ c',c' = c:=⟨_,rfl⟩
  obtain ⟨xs',hxs'⟩:∃ xs',xs' = xs:=⟨_,rfl⟩
  obtain ⟨w1,hw1⟩:∃ w1,w1 = w:=⟨_,rfl⟩
  subst hn' hc' hxs' hw1
  have how1:=HO.out
  have hB1:Below B w1 w1:=Below.refl _ _
  have hc1:=hc
  have HD':Hid (Dg xs'):=Lib.hid HX.out.1
  have HXU:Hid (U xs' = U xs'):=Lib.hid rfl
  have HGE:Hid (xs'≠[]→4294967296 ^ (n' - 1)≤U xs' + U ys):=Lib.hid (fun h => by have:=U_ge HX.out h; rw [HL.out] at this; omega)
  have hn2':n2≤n':=by omega
  go_enter Tryz.func94,Tryz.ntmps94
  go_wp2_with fail
  clear HO
  have hlen':xs'.length = n':=how1.len
  obtain ⟨R,hw,hBg,hcap,hmax⟩:=how1.win
  have hgl:=hw.lt
  have HLN:=Lib.hid hlen'
  clear hlen' how1
  refine (addInto_any g 0 [] R xs' ys n' c' n2 c2 A2 w1 HLN.out HL2.out rfl hw ((hr2.below hB1 (Nat.le_refl _)).more hBg) HD'.out HY.out.1 (by omega) hn2' hc1).mono ?_
  rintro e w2 ⟨ov,zs,rfl,hzl,hzd,hzU,hov,hwin,hgr⟩
  have hB2:Below B w1 w2:=hB1.trans (wrote_below hgr hBg hgl)
  have hBs:=hB2.size
  have how2:Ow w2 B (.slice (some ⟨g,0,none⟩) n' c') n' zs:=Ow.of_win hwin hzl hBg hcap hmax
  have HOW:=Lib.hid how2
  have HZL:=Lib.hid hzl
  have HCAP:=Lib.hid hcap
  clear how2 hzl hw hcap hwin
  rcases (show ov = 0∨ov = 1 by omega) with rfl | rfl
  ·
   have hu:U zs = U xs' + U ys:=by have:=HXU.out; omega
   have hcz:Cn zs:=Cn.of_ge hzd (fun hne => by rw [HZL.out,hu]; refine HGE.out (fun h => ?_); have h1:=HLN.out; rw [h] at h1; have h2:=List.length_pos_iff.2 hne; have:=HZL.out; simp at h1; omega)
   have HU:=Lib.hid hu
   clear hu hzU
   go_wp2_with fail
   go_ret
   exact ⟨_,zs,rfl,by rw [HZL.out]; exact HOW.out,hcz,HU.out,hB2⟩
  ·
   have hu:U (zs ++ [1]) = U xs' + U ys:=by rw [U_one_more,HZL.out]; have:=HXU.out; omega
   have HU:=Lib.hid hu
   have ho3:=HOW.out.below ((Below.refl _ w2).alloc (Nat.le_refl _) (.cells #[.int .u32 1] 84))
   have HO3:Hid (World.ownsRow (w2.alloc (.cells #[.int .u32 1] 84)) B 84 1 (.slice (some ⟨g,0,none⟩) n' c') zs.length (u32s zs)):=Lib.hid (by rw [HZL.out]; exact ho3)
   have HR1:Hid (Ra (w2.alloc (.cells #[.int .u32 1] 84)) (w2.heap.size + 1) (some ⟨w2.heap.size,0,none⟩) [1]):=Lib.hid (by simpa using Ra.one w2 1 84)
   clear hu hzU ho3
   go_wp2_with (at_builtin; go_loud (refine wpList_append_u32s _ rfl (.tmp 23) (.tmp 25) 39 rfl B 84 Tryz.underlying39 info_u32 (.slice (some ⟨g,0,none⟩) n' c') zs rfl HO3.out (w2.heap.size + 1) (some ⟨w2.heap.size,0,none⟩) 1 [1] _ rfl rfl HR1.out (by have:=HZL.out; simp; omega) (by simp; omega) ?_); intro A4 n4 c4 w4 hl4 hc4 hown4 hg4)
   go_ret
   exact ⟨_,zs ++ [1],rfl,by rw [hl4.out]; exact hown4.out,Cn.one_more hzd,HU.out,(hB2.alloc (by omega) _).grown hg4 (by simp; omega) (by intro k hk; simp [Value.ownBlock] at hk; omega)⟩
end Go.Proofs.YtgopgbfgbddggaaGreat
namespace Go.Proofs.YtgopgbfgbddggaaGreat
open Go.RowKit
set_option maxRecDepth 100000
end Go.Proofs.YtgopgbfgbddggaaGreat
namespace Go.Proofs.YtgopgbfgbddggaaGreat
open Go.RowKit Go.Shelf
set_option maxRecDepth 100000
attribute [local go_sem] Oper.semAt_some
theorem Same.of_written {S:Addr→Prop} {W W':World} {row:Option Nat} (hg:W.grownBy W' row) (hS:∀ p,S p→some p.block≠row):Same S W W' :=
 ⟨hg.size,fun p _ hp hv => hg.cell hv (hS p hp)⟩
theorem KeepsOthers.of_below {W W':World} (h:Below W.heap.size W W'):KeepsOthers W W':=⟨h.size,fun k _ hk _ => (h.block k (Array.getElem?_eq_some_iff.1 hk).1).trans hk⟩
section
variable {P:Program} (w:World)
end
end Go.Proofs.YtgopgbfgbddggaaGreat
namespace Go.Proofs.YtgopgbfgbddggaaGreat
open Go.RowKit
set_option maxRecDepth 100000
theorem held_set1 {wb W:World} {p:Addr} {u x:Value} {g:Nat} (hg:wb.heap.size≤g) (hp:p.block < wb.heap.size) (h:W.cell? p = some u∧Below wb.heap.size wb W) :
  (W.setCell ⟨g,0,none⟩ x).cell? p = some u∧Below wb.heap.size wb (W.setCell ⟨g,0,none⟩ x) :=
 ⟨(World.cell?_setCell_other W _ _ _ (fun e => by rw [← e] at hp; simp at hp; omega)).trans h.1,h.2.setCell hg _⟩
theorem b1 (w:World) (o:Obj):Below w.heap.size w (w.alloc o):=(Below.refl _ _).alloc (Nat.le_refl _) _
theorem b2 (w:World) (a b:Obj):Below w.heap.size w ((w.alloc a).alloc b):=((Below.refl _ _).alloc (Nat.le_refl _) _).alloc (by simp) _
theorem snd_of {wb W:World} {p:Addr} {u:Value} (h:W.cell? p = some u∧Below wb.heap.size wb W):Below wb.heap.size wb W:=h.2
def NumA (W:World) (B:Nat) (v:Value) (a:Nat):Prop:=∃ A xs n c,v = .agg #[.slice A n c]∧xs.length = n∧n≤c∧Rd W W.heap.size A xs∧(xs≠[]→∀ b o,A = some ⟨b,o,none⟩→b < B∨B + 2 < b)∧Can xs∧V xs = a
theorem NumA.num {W:World} {B:Nat} {v:Value} {a:Nat} (h:NumA W B v a):Num W 0 v a:=by
 obtain ⟨A,xs,n,c,h1,hl,h2,h3,_,h5,h6⟩:=h
 exact ⟨A,xs,n,c,h1,hl,h2,h3,fun hx => by obtain ⟨b,o,e,_,_⟩:=h3 hx; exact ⟨b,o,e,Nat.zero_le _⟩,h5,h6⟩
theorem NumA.below {W W':World} {B:Nat} {v:Value} {a:Nat} (h:NumA W B v a) (hb:Below W.heap.size W W'):NumA W' B v a:=by
 obtain ⟨A,xs,n,c,h1,hl,h2,h3,h4,h5⟩:=h
 exact ⟨A,xs,n,c,h1,hl,h2,(h3.below hb (Nat.le_refl _)).more hb.size,h4,h5⟩
theorem NumA.set {W:World} {B g:Nat} {v u:Value} {a:Nat} (h:NumA W B v a) (h1:B≤g) (h2:g≤B + 2):NumA (W.setCell ⟨g,0,none⟩ u) B v a:=by
 obtain ⟨A,xs,n,c,e1,hl,e2,h3,h4,h5⟩:=h
 refine ⟨A,xs,n,c,e1,hl,e2,?_,h4,h5⟩
 rw [setCell_size]
 intro hx
 obtain ⟨b,o,e,hb,hc⟩:=h3 hx
 refine ⟨b,o,e,hb,fun k hk => ?_⟩
 rw [World.cell?_setCell_other W _ _ u (fun e' => by
  have:=h4 hx b o e
  injection e' with e1 e2
  omega)]
 exact hc k hk
theorem NumA.old {w:World} {L:Nat} {v:Value} {a:Nat} (h:Num w L v a):NumA w w.heap.size v a:=by
 obtain ⟨A,xs,n,c,h1,hl,h2,h3,_,h5,h6⟩:=h
 exact ⟨A,xs,n,c,h1,hl,h2,h3,fun hx b' o' e' => by
  obtain ⟨b,o,e,hb,_⟩:=h3 hx
  rw [e] at e'
  injection e' with e'
  injection e' with e1 e2
  subst e1
  exact .inl hb,h5,h6⟩
theorem NumA.new {W:World} {B L:Nat} {v:Value} {a:Nat} (h:Num W L v a) (hL:B + 2 < L):NumA W B v a:=by
 obtain ⟨A,xs,n,c,h1,hl,h2,h3,h4,h5,h6⟩:=h
 exact ⟨A,xs,n,c,h1,hl,h2,h3,fun hx b' o' e' => by
  obtain ⟨b,o,e,hb⟩:=h4 hx
  rw [e] at e'
  injection e' with e'
  injection e' with e1 e2
  subst e1
  exact .inr (by omega),h5,h6⟩
theorem Num.same {W:World} {L L':Nat} {v:Value} {a b:Nat} (h:Num W L v a) (k:Num W L' v b):a = b:=by
 obtain ⟨A,xs,n,c,h1,hl,h2,h3,_,_,h6⟩:=h
 obtain ⟨A',ys,n',c',k1,kl,k2,k3,_,_,k6⟩:=k
 rw [h1] at k1
 simp only [Value.agg.injEq,Array.mk.injEq,List.cons.injEq,Value.slice.injEq,and_true] at k1
 obtain ⟨rfl,rfl,rfl⟩:=k1
 have hxy:xs = ys:=by
  apply List.ext_getElem (by omega)
  intro i hi hj
  obtain ⟨b1,o1,e1,_,c1⟩:=h3 (by rintro rfl; simp at hi)
  obtain ⟨b2,o2,e2,_,c2⟩:=k3 (by rintro rfl; simp at hj)
  rw [e1] at e2
  injection e2 with e2
  injection e2 with e3 e4
  subst e3 e4
  have:=(c1 i hi).symm.trans (c2 i hj)
  rw [nth_in hi,nth_in hj] at this
  simp only [Option.some.injEq,Value.int.injEq,true_and] at this
  omega
 rw [← h6,← k6,hxy]
open Classical in
noncomputable def boxN (W:World) (g:Nat):Nat:=if h:∃ a s L,W.cell? ⟨g,0,none⟩ = some s∧Num W L (.agg #[s]) a then h.choose else 0
theorem boxN_eq {W:World} {g a L:Nat} {s:Value} (hc:W.cell? ⟨g,0,none⟩ = some s) (hn:Num W L (.agg #[s]) a):boxN W g = a:=by
 have h:∃ a s L,W.cell? ⟨g,0,none⟩ = some s∧Num W L (.agg #[s]) a:=⟨a,s,L,hc,hn⟩
 unfold boxN
 rw [dif_pos h]
 obtain ⟨s',L',hc',hn'⟩:=h.choose_spec
 rw [hc] at hc'
 injection hc' with hc'
 subst hc'
 exact hn'.same hn
theorem num_len3 {w:World} {L m n c:Nat} {A:Option Addr} (h:Num w L (.agg #[.slice A n c]) m):(n = 0∧m = 0)∨(0 < n∧0 < m):=by
 obtain ⟨A',xs,n',c',hv,hl,_,_,_,hcan,hV⟩:=h
 simp only [Value.agg.injEq,Array.mk.injEq,List.cons.injEq,Value.slice.injEq,and_true] at hv
 obtain ⟨rfl,rfl,rfl⟩:=hv
 rcases xs with _ | ⟨d,r⟩
 · exact .inl ⟨by simpa using hl.symm,by rw [← hV]; rfl⟩
 ·
  refine .inr ⟨by rw [← hl]; simp,?_⟩
  rcases Nat.eq_zero_or_pos m with h0 | h0
  ·
   have:d :: r = []:=V_inj hcan Can.nil (by rw [hV,h0]; rfl)
   cases this
  · exact h0
structure GM (w:World) (x y:Nat) (s t:Value) (wr:World):Prop where
 below:Below w.heap.size w wr
 one:Blk wr w.heap.size 33 #[s]
 two:Blk wr (w.heap.size + 1) 33 #[t]
 res:Blk wr (w.heap.size + 2) 33 #[.slice none 0 0]
 nx:NumA wr w.heap.size (.agg #[s]) x
 ny:NumA wr w.heap.size (.agg #[t]) y
theorem GM.step {w wr w':World} {x y:Nat} {s t:Value} (h:GM w x y s t wr) (hb:Below wr.heap.size wr w'):GM w x y s t w' :=
 ⟨h.below.trans (hb.mono h.below.size),h.one.below hb h.one.lt,h.two.below hb h.two.lt,h.res.below hb h.res.lt,h.nx.below hb,h.ny.below hb⟩
theorem GM.turn {w wr:World} {x y z:Nat} {s t r:Value} (h:GM w x y s t wr) (hz:NumA wr w.heap.size (.agg #[r]) z):GM w y z t r ((wr.setCell ⟨w.heap.size,0,none⟩ t).setCell ⟨w.heap.size + 1,0,none⟩ r) :=
 ⟨(
  h.below.setCell (by simp) _).setCell (by simp) _,by have:=(h.one.set_ 0 t).far (p:=⟨w.heap.size + 1,0,none⟩) (by simp) r; simpa using this,by have:=(h.two.far (p:=⟨w.heap.size,0,none⟩) (by simp) t).set_ 0 r; simpa using this,(h.res.far (by simp) _).far (by simp) _,
  (h.ny.set (by omega) (by omega)).set (by omega) (by omega),(hz.set (by omega) (by omega)).set (by omega) (by omega)⟩
set_option maxHeartbeats 4000000 in
theorem refGcd3_any {j:Nat} (A1 A2:Option Addr) (n1 c1 n2 c2 a b L1 L2:Nat) (w:World) (h1:Num w L1 (.agg #[.slice A1 n1 c1]) a) (h2:Num w L2 (.agg #[.slice A2 n2 c2]) b) (ha:a < 65536 ^ j) (hb:b < 65536 ^ j) (hj:j≤4000) :
  Calls Tryz.prog 73 #[.agg #[.slice A1 n1 c1],.agg #[.slice A2 n2 c2]] w fun e w' => ∃ v,e = .returned v∧(∃ L,Num w' L v (Nat.gcd a b))∧Below w.heap.size w w':=by
 obtain ⟨G,hG⟩:∃ G,Nat.gcd a b = G:=⟨_,rfl⟩
 rw [hG]
 have HA:=Lib.hid ha
 have HB:=Lib.hid hb
 have HG:=Lib.hid hG
 have hb0:Below w.heap.size w (((w.alloc (.cells #[.slice A1 n1 c1] 33)).alloc (.cells #[.slice A2 n2 c2] 33)).alloc (.cells #[.slice none 0 0] 33)) :=
  (((Below.refl _ _).alloc (Nat.le_refl _) _).alloc (by simp) _).alloc (by simp; omega) _
 have q2:=(Blk.new (w.alloc (.cells #[.slice A1 n1 c1] 33)) 33 #[.slice A2 n2 c2]).alloc (.cells #[.slice none 0 0] 33)
 have q3:=Blk.new ((w.alloc (.cells #[.slice A1 n1 c1] 33)).alloc (.cells #[.slice A2 n2 c2] 33)) 33 #[.slice none 0 0]
 have hm0:GM w a b (.slice A1 n1 c1) (.slice A2 n2 c2) _:=⟨hb0,((Blk.new w _ _).alloc _).alloc _,by simpa using q2,by simpa using q3,(NumA.old h1).below hb0,(NumA.old h2).below hb0⟩
 have HM0:=Lib.hid hm0
 clear ha hb hG h1 h2 hb0 q2 q3 hm0
 go_enter Tryz.func73,Tryz.ntmps73
 go_wp2_with fail
 go_loopw [] (fun wr => ∃ (x y:Nat) (A:Option Addr) (n c:Nat) (A':Option Addr) (n' c':Nat),GM w x y (.slice A n c) (.slice A' n' c') wr∧Nat.gcd x y = G∧x < 65536 ^ j∧y < 65536 ^ j) (fun wr => boxN wr (w.heap.size + 1))
 case atStart => exact ⟨a,b,A1,n1,c1,A2,n2,c2,HM0.out,HG.out,HA.out,HB.out⟩
 case round =>
  clear HM0 HA HB HG
  obtain ⟨x,y,A,n,c,A',n',c',hm,hg,hx,hy⟩:=hrel
  have c1':wr.cell? ⟨w.heap.size,0,none⟩ = some (.slice A n c):=hm.one.cell 0
  have c2':wr.cell? ⟨w.heap.size + 1,0,none⟩ = some (.slice A' n' c'):=hm.two.cell 0
  have c3':wr.cell? ⟨w.heap.size + 1 + 1,0,none⟩ = some (.slice none 0 0):=hm.res.cell 0
  have f1':=hm.one.frozen 0
  have f2':=hm.two.frozen 0
  have f3':wr.frozen? ⟨w.heap.size + 1 + 1,0,none⟩ = false:=hm.res.frozen 0
  have hlt:=hm.res.lt
  have hnl:=num_len3 hm.ny.num
  have HM:=Lib.hid hm
  have HG:=Lib.hid hg
  have HX:=Lib.hid hx
  have HY:=Lib.hid hy
  have HBX:=Lib.hid (boxN_eq c2' hm.ny.num)
  clear hm hg hx hy
  rcases hnl with ⟨rfl,rfl⟩ | ⟨hn0,hy0⟩
  ·
   have hxG:x = G:=by have:=HG.out; rwa [Nat.gcd_zero_right] at this
   subst hxG
   go_wp2_with fail
   have cc:(wr.setCell ⟨w.heap.size + 1 + 1,0,none⟩ (.slice A n c)).cell? ⟨w.heap.size + 1 + 1,0,none⟩ = some (.slice A n c):=by have:=(HM.out.res.set_ 0 (.slice A n c)).cell 0; simpa using this
   exact bodyPost_ret (v:=.agg #[.slice A n c]) (by simp [results,Tryz.results73,go_sem,cc]) rfl ⟨_,rfl,⟨0,(HM.out.nx.set (g:=w.heap.size + 1 + 1) (by omega) (by omega)).num⟩,HM.out.below.setCell (by simp; omega) _⟩
  ·
   go_wp2_with fail
   refine (div_num (.agg #[.slice A n c]) (.agg #[.slice A' n' c']) x y _ _ wr HM.out.nx.num HM.out.ny.num HX.out HY.out hy0).mono ?_
   rintro e u ⟨v1,v2,rfl,hq1,hq2,hb⟩
   obtain ⟨A4,n4,c4,rfl⟩:=hq1.shape
   obtain ⟨A5,n5,c5,rfl⟩:=hq2.shape
   have hm1:=HM.out.step hb
   have hsz:=hb.size
   have H5:=Lib.hid (NumA.new (B:=w.heap.size) hq2 (by omega))
   have HM1:=Lib.hid hm1
   have hm2:=hm1.step (b2 u (.cells #[.slice A4 n4 c4] 33) (.cells #[.slice A5 n5 c5] 33))
   have d2:((u.alloc (.cells #[.slice A4 n4 c4] 33)).alloc (.cells #[.slice A5 n5 c5] 33)).cell? ⟨w.heap.size + 1,0,none⟩ = some (.slice A' n' c'):=hm2.two.cell 0
   have d1:((u.alloc (.cells #[.slice A4 n4 c4] 33)).alloc (.cells #[.slice A5 n5 c5] 33)).cell? ⟨w.heap.size,0,none⟩ = some (.slice A n c):=hm2.one.cell 0
   have e1:=hm2.one.frozen 0
   have e2:=hm2.two.frozen 0
   have hlt1:=hm1.res.lt
   have HM2:=Lib.hid hm2
   clear hm2
   clear hm1 hq1 hq2 c1' c2' c3' f1' f2' f3'
   go_wp2_with fail
   have ht:=HM2.out.turn (H5.out.below (b2 u (.cells #[.slice A4 n4 c4] 33) (.cells #[.slice A5 n5 c5] 33)))
   refine ⟨⟨y,x % y,A',n',c',A5,n5,c5,ht,by rw [← HG.out,Nat.gcd_comm x y,Nat.gcd_rec y x,Nat.gcd_comm],HY.out,Nat.lt_trans (Nat.mod_lt _ hy0) HY.out⟩,?_⟩
   rw [boxN_eq (ht.two.cell 0) ht.ny.num,HBX.out]
   exact Nat.mod_lt _ hy0
theorem U_set (ds:List Nat) (j r:Nat) (hj:j < ds.length):U (ds.set j r) + 4294967296 ^ j * nth ds j = U ds + 4294967296 ^ j * r:=by
 induction ds generalizing j with
 | nil => simp at hj
 | cons d t ih =>
  cases j with
  | zero => simp [List.set,U,nth]; omega
  | succ j =>
   have:=ih j (by simpa using hj)
   simp only [List.set,U,nth_cons,Nat.pow_succ]
   generalize U (t.set j r) = a at *
   generalize 4294967296 ^ j = P at *
   grind
def MOut (xs ys:List Nat) (n2 N i:Nat) (ds:List Nat):Prop:=ds.length = N∧Dg ds∧U ds = U (xs.take i) * U ys∧∀ j,i + n2≤j→nth ds j = 0
def MIn (xs ys:List Nat) (n2 N i k o:Nat) (ds:List Nat):Prop :=
 ds.length = N∧Dg ds∧U ds + 4294967296 ^ (i + k) * o = U (xs.take i) * U ys + 4294967296 ^ i * nth xs i * U (ys.take k)∧(∀ j,i + n2≤j→nth ds j = 0)∧o < 4294967296
theorem MOut.start {xs ys ds:List Nat} {n2 N i:Nat} (h:MOut xs ys n2 N i ds):MIn xs ys n2 N i 0 0 ds:=by
 obtain ⟨h1,h2,h3,h4⟩:=h
 exact ⟨h1,h2,by simp [U,h3],h4,by omega⟩
theorem MIn.step {xs ys ds:List Nat} {n2 N i k o X:Nat} (h:MIn xs ys n2 N i k o ds) (hX:o + (nth xs i * nth ys k + nth ds (i + k)) = X) (hk:k < n2) (hj:i + k < N) (hXb:X / 4294967296 < 4294967296) :
  MIn xs ys n2 N i (k + 1) (X / 4294967296) (ds.set (i + k) (X % 4294967296)):=by
 obtain ⟨hl,hd,hv,hz,ho⟩:=h
 refine ⟨by simp [hl],hd.set (by omega),?_,fun j h1 => ?_,hXb⟩
 ·
  have h1:=U_set ds (i + k) (X % 4294967296) (by omega)
  rw [U_take_succ]
  have h2:=Nat.div_add_mod X 4294967296
  rw [show i + (k + 1) = (i + k) + 1 by omega,Nat.pow_succ]
  rw [Nat.pow_add] at *
  generalize X / 4294967296 = q at *
  generalize X % 4294967296 = r at *
  generalize U (ds.set (i + k) r) = v' at *
  generalize 4294967296 ^ i = P at *
  generalize 4294967296 ^ k = R at *
  have e:P * R * (o + (nth xs i * nth ys k + nth ds (i + k))) = P * R * (4294967296 * q + r):=by rw [hX,h2]
  grind
 ·
  rw [nth_set32 (by omega),if_neg (by omega)]
  exact hz j h1
theorem MIn.done {xs ys ds:List Nat} {n2 N i o:Nat} (h:MIn xs ys n2 N i n2 o ds) (hy:ys.length = n2) (hj:i + n2 < N):MOut xs ys n2 N (i + 1) (ds.set (i + n2) o):=by
 obtain ⟨hl,hd,hv,hz,ho⟩:=h
 refine ⟨by simp [hl],hd.set ho,?_,fun j h1 => ?_⟩
 ·
  have h1:=U_set ds (i + n2) o (by omega)
  have h2:=hz (i + n2) (Nat.le_refl _)
  rw [U_take_all ys _ (by omega)] at hv
  rw [U_take_succ]
  rw [h2] at h1
  generalize 4294967296 ^ (i + n2) = Q at *
  generalize 4294967296 ^ i = P at *
  grind
 ·
  rw [nth_set32 (by omega),if_neg (by omega)]
  exact hz j (by omega)
theorem mul_prod32 {a b:Nat} (ha:a < 4294967296) (hb:b < 4294967296):a * b≤18446744065119617025:=Nat.mul_le_mul (show a≤4294967295 by omega) (show b≤4294967295 by omega)
theorem zeros_dg (N:Nat):Dg (List.replicate N 0):=fun d hd => by
 have:=(List.mem_replicate.1 hd).2
 omega
theorem zeros_U (N:Nat):U (List.replicate N 0) = 0:=by
 induction N with
 | zero => rfl
 | succ n ih => rw [List.replicate_succ,U,ih]
theorem madeCells_u32s (N:Nat):(madeCells (Value.int .u32 0).cells (N * 1)).toList = u32s (List.replicate N 0):=by
 have e:(madeCells (Value.int .u32 0).cells (N * 1)).toList = (List.range N).map fun x => [Value.int IntKind.u32 0][x % 1]?.getD default:=by simp [madeCells,Value.cells]
 rw [e]
 simp only [u32s,List.map_replicate]
 apply List.ext_getElem
 · simp
 ·
  intro i h1 h2
  simp [Nat.mod_one]
set_option maxHeartbeats 4000000 in
theorem mulTwo_any (A1 A2:Option Addr) (xs ys:List Nat) (n1 c1 n2 c2:Nat) (w:World) (hl1:xs.length = n1) (hl2:ys.length = n2) (hr1:Ra w w.heap.size A1 xs) (hr2:Ra w w.heap.size A2 ys)
  (hd1:Dg xs) (hd2:Dg ys) (hn1:n1≤100000) (hn2:n2≤100000) :
  Calls Tryz.prog 95 #[.slice A1 n1 c1,.slice A2 n2 c2] w (RetNv w (U xs * U ys)):=by
 have HL1:=Lib.hid hl1
 have HL2:=Lib.hid hl2
 clear hl1 hl2
 obtain ⟨N,hN⟩:∃ N,n1 + n2 = N:=⟨_,rfl⟩
 have HN:=Lib.hid hN
 have hNb:N≤200000:=by omega
 have hNi:(n1:Int) + (n2:Int) = (N:Int):=by omega
 clear hN
 obtain ⟨i0,hi0,hz0,hz1,hz2⟩:=info_parts info_u32
 go_enter Tryz.func95,Tryz.ntmps95
 go_wp2_with ((with_reducible refine wpList_make_full _ rfl (.tmp 15) (.tmp 15) 39 rfl w.heap.size 84 i0 (.int .u32 0) 1 Tryz.underlying39 hi0 hz0 hz1 .i64 .i64 _ _ N rfl rfl (by have:=HN.out; omega) (by have:=HN.out; omega) (by rw [hz2]; omega) (by unfold maxLen; omega) (by simp) ?_); intro w1 hown1 hg1)
 have hm0:Win w1 w.heap.size 84 [] (List.replicate N 0) []:=by
  rcases hown1.2 with ⟨h,_⟩ | ⟨g,cap,c,hv,_,hh,_,_,hsz,ht⟩
  · injection h with h; cases h
  ·
   injection hv with hv _ hcap
   injection hv with hv
   injection hv with hv
   subst hv hcap
   unfold Win Blk
   rw [hh]
   have:c = (u32s (List.replicate N 0)).toArray:=by
    rw [← madeCells_u32s N,← ht,List.take_of_length_le (by simp; omega)]
   rw [this]; simp
 have hb0:Below w.heap.size w w1:=(Below.refl _ _).grown hg1 (Nat.le_refl _) (by intro k hk; cases hk)
 have HM0:=Lib.hid hm0
 have HB0:=Lib.hid hb0
 clear hown1 hg1 hm0 hb0 hz0 hz1 hz2
 go_loopw [19] (fun i wr => ∃ (k:Nat) (ds:List Nat),i = .int .i64 (k:Int)∧k≤n1∧MOut xs ys n2 N k ds∧Win wr w.heap.size 84 [] ds []∧Below w.heap.size w wr) (fun i _ => n1 - (intOf i).toNat)
 case atStart => exact ⟨0,List.replicate N 0,rfl,by omega,⟨by simp,zeros_dg N,by rw [zeros_U]; simp [U],fun j _ => zeros_nth N j⟩,HM0.out,HB0.out⟩
 case round =>
  obtain ⟨i,ds,rfl,hi,ho,hw,hB⟩:=hrel
  clear HM0 HB0
  have HO:=Lib.hid ho
  have HW:=Lib.hid hw
  clear ho hw
  by_cases hti:i < n1
  ·
   obtain ⟨b1,o1,hA1,hb1,cx⟩:=(hr1.below hB (Nat.le_refl _)).at_ (k:=i) (by have:=HL1.out; omega)
   subst hA1
   have hst:=Lib.hid HO.out.start
   have hxi:=hd1.nth i
   go_wp2_with fail
   go_loopw [8,26] (fun o k wr => ∃ (kk oo:Nat) (ds:List Nat),k = .int .i64 (kk:Int)∧o = .int .u64 (oo:Int)∧kk≤n2∧MIn xs ys n2 N i kk oo ds∧Win wr w.heap.size 84 [] ds []∧Below w.heap.size w wr) (fun _ k _ => n2 - (intOf k).toNat)
   case atStart => exact ⟨0,0,ds,rfl,rfl,by omega,hst.out,HW.out,hB⟩
   case round =>
    clear hst HO HW hB cx
    obtain ⟨k,o,ds,rfl,rfl,hk,hin,hw,hB⟩:=hrel
    have HIN:=Lib.hid hin
    have ho:=hin.2.2.2.2
    have hdl:=Lib.hid hin.1
    have hdd:=hin.2.1.nth (i + k)
    have HZ:Hid (nth ds (i + n2) = 0):=Lib.hid (hin.2.2.2.1 _ (Nat.le_refl _))
    clear hin
    by_cases ht:k < n2
    ·
     have cd:=hw.cell (o:=0) rfl (k:=i + k) (by have:=hdl.out; have:=HN.out; omega)
     rw [Nat.zero_add] at cd
     have fd:=hw.frozen (i + k)
     obtain ⟨b2,o2,hA2,hb2,cy⟩:=(hr2.below hB (Nat.le_refl _)).at_ (k:=k) (by have:=HL2.out; omega)
     subst hA2
     have hyk:=hd2.nth k
     have hpr:=mul_prod32 hxi hyk
     obtain ⟨X,hX⟩:∃ X,o + (nth xs i * nth ys k + nth ds (i + k)) = X:=⟨_,rfl⟩
     have hXb:X < 18446744073709551616:=by omega
     have hXi:(o:Int) + ((nth xs i:Int) * (nth ys k:Int) + (nth ds (i + k):Int)) = (X:Int):=by rw [← hX]; simp
     have hst:=Lib.hid (HIN.out.step hX ht (by have:=HN.out; omega) (by omega))
     have hp2:(nth xs i:Int) * (nth ys k:Int) = ((nth xs i * nth ys k:Nat):Int):=by simp
     have hpi:(nth xs i:Int) * (nth ys k:Int)≤18446744065119617025:=by omega
     have hpi0:0≤(nth xs i:Int) * (nth ys k:Int):=by omega
     have hik:(i:Int) + (k:Int) < (N:Int):=by have:=HN.out; omega
     have hikn:((i:Int) + (k:Int)).toNat = i + k:=by omega
     clear hX hp2
     go_wp2_with fail
     go_roundw
     case rel => exact ⟨k + 1,X / 4294967296,ds.set (i + k) (X % 4294967296),by go_num,by go_num,by omega,hst.out,by have:=hw.put (o:=0) rfl (k:=i + k) (d:=X % 4294967296) (u:=(X:Int) % 4294967296) (by have:=hdl.out; have:=HN.out; omega) (by omega); rwa [Nat.zero_add] at this,hB.setCell (by simp) _⟩
     case measure => simp [intOf]; omega
    ·
     obtain rfl:k = n2:=by omega
     have cd:=hw.cell (o:=0) rfl (k:=i + k) (by have:=hdl.out; have:=HN.out; omega)
     rw [Nat.zero_add] at cd
     have fd:=hw.frozen (i + k)
     have hik:(i:Int) + (k:Int) < (N:Int):=by have:=HN.out; omega
     have hikn:((i:Int) + (k:Int)).toNat = i + k:=by omega
     have hdn:=Lib.hid (HIN.out.done HL2.out (by have:=HN.out; omega))
     go_wp2_with fail
     go_roundw
     case rel => exact ⟨i + 1,ds.set (i + k) o,by go_num,by omega,hdn.out,by have:=hw.put (o:=0) rfl (k:=i + k) (d:=o) (u:=(o:Int)) (by have:=hdl.out; have:=HN.out; omega) rfl; rwa [Nat.zero_add] at this,hB.setCell (by simp) _⟩
     case measure => simp [intOf]; omega
  ·
   obtain rfl:i = n1:=by omega
   obtain ⟨hdl,hdd,hU,_⟩:=HO.out
   have hr:=HW.out.reads (o:=0) rfl
   have HU:Hid (U ds = U xs * U ys):=Lib.hid (by rw [hU,U_take_all xs _ (by have:=HL1.out; omega)])
   have HDL:=Lib.hid hdl
   clear hU hdl
   go_wp2_with fail
   refine (shorten_any _ ds N N _ HDL.out hr hdd (by omega) (Nat.le_refl _)).mono ?_
   rintro e w2 ⟨m,hm,rfl,hcan,hU2,rfl⟩
   have HC:=Lib.hid hcan
   have HU2:=Lib.hid (hU2.trans HU.out)
   clear hcan hU2
   go_wp2_with fail
   go_ret
   exact ⟨_,rfl,⟨_,ds.take m,m,N,rfl,by have:=HDL.out; simp; omega,hm,hr.take m,fun _ => ⟨_,_,rfl,Nat.le_refl _⟩,HC.out,HU2.out⟩,hB⟩
end Go.Proofs.YtgopgbfgbddggaaGreat
