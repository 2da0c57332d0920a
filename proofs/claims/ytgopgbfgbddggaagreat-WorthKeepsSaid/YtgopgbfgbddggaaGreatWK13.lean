/-
  SaidWorthKeeps, part 13 of 30: what the theorem worthKeeps_holds reaches.
-/
import Derived.Test.YtgopgbfgbddggaaGreatWK12
set_option linter.all false
namespace Go.Proofs.YtgopgbfgbddggaaGreat
open Go.RowKit Go.Shelf
attribute [local go_sem] Oper.semAt_some
theorem U_last {xs:List Nat} {m k:Nat} (hk:k < m):U ((xs.take m).drop (m - (k + 1))) = U ((xs.take m).drop (m - k)) * 4294967296 + nth xs (m - 1 - k):=by
 have e:m - (k + 1) + 1 = m - k:=by omega
 have:=U_drop (xs.take m) (m - (k + 1))
 rw [e] at this
 rw [this,nth_take (by omega),show m - (k + 1) = m - 1 - k by omega]
 omega
theorem U_small {xs:List Nat} (h:Dg xs) {k:Nat} (hk:xs.length≤k):U xs < 4294967296 ^ k:=Nat.lt_of_lt_of_le (U_lt h) (Nat.pow_le_pow_right (by omega) hk)
theorem natWord_step {a d:Nat} (ha:a < 4294967296) (hd:d < 4294967296):bits .or .u64 ((a:Int) * 4294967296) (IntKind.u64.wrap (d:Int)) = ((a * 4294967296 + d:Nat):Int):=by
 rw [IntWalk.u64_in (d:Int) (by omega),show (a:Int) * 4294967296 = ((a * 4294967296:Nat):Int) by omega,or_low32 a d ha hd]
set_option maxRecDepth 100000 in
set_option maxHeartbeats 2000000 in
theorem natWord_any (A:Option Addr) (xs:List Nat) (n c:Nat) (w:World) (hl:xs.length = n) (hr:Ra w w.heap.size A xs) (hd:Dg xs) (hn:n≤10000000) (hc:n≤c) :
  Calls Tryz.prog 128 #[.slice A n c] w fun e w' => e = .returned (.tuple #[.int .u64 ((fw (U xs):Nat):Int),.bool (fb (U xs))])∧Below w.heap.size w w':=by
 obtain ⟨q,hq⟩:∃ q,fw (U xs) = q:=⟨_,rfl⟩
 obtain ⟨z,hz⟩:∃ z,fb (U xs) = z:=⟨_,rfl⟩
 rw [hq,hz]
 refine (callsIn_wide (n:=5)).1 ?_
 refine callsIn_of_wp_marks Tryz.func128 rfl trivial ?_ rfl
 simp only [Tryz.ntmps128,List.size_toArray,List.length_cons,List.length_nil,Nat.reduceAdd,Nat.reduceSub,Array.replicate_succ,Array.replicate_zero,List.push_toArray,List.append_toArray,List.nil_append,List.cons_append]
 gi_wp2_with fail
 refine ⟨trivial,(callsIn_wide.2 (shorten_any A xs n c w hl hr hd hn hc)).mono ?_⟩
 rintro e w' ⟨m,hm,rfl,hcan,hU,rfl⟩
 have hml:(xs.take m).length = m:=by simp; omega
 rw [← hU] at hq hz
 have hr1:=hr.take m
 have HD:=Lib.hid hd
 have HC:=Lib.hid hcan
 clear hU hl hr hd
 by_cases h2:m≤2
 ·
  have hlt:U (xs.take m) < 18446744073709551616:=Nat.lt_of_lt_of_le (U_small HC.out.1 (k:=2) (by omega)) (by decide)
  rw [fw_in hlt] at hq
  rw [fb_in hlt] at hz
  subst hz
  have HQ:=Lib.hid hq
  clear hq
  have HML:=Lib.hid hml
  clear hlt hml
  gi_wp2_with fail
  refine ⟨trivial,(backw_in Fence.wide _ trivial rfl A m c _).mono ?_⟩
  rintro e w' ⟨rfl,rfl⟩
  have bS:=Boxed.new w 48 (.int .u64 0)
  have bN:=Boxed.new (w.alloc (.cells #[.int .u64 0] 48)) 39 (.slice A m c)
  rw [World.size_alloc] at bN
  have hB0:Below w.heap.size w ((w.alloc (.cells #[.int .u64 0] 48)).alloc (.cells #[.slice A m c] 39)):=((Below.refl _ w).alloc (Nat.le_refl _) _).alloc (by simp) _
  have hr2:Ra ((w.alloc (.cells #[.int .u64 0] 48)).alloc (.cells #[.slice A m c] 39)) (w.heap.size + 2) A (xs.take m):=(hr1.below hB0 (Nat.le_refl _)).more (by omega)
  have hgo:=backw_goes Fence.wide 4 trivial rfl (by omega) (w.heap.size + 1) A (xs.take m) m c _ HML.out (hr1.below hB0 (Nat.le_refl _) |>.more (by simp; omega)) (by omega) (by omega) bN.cell
  gi_wp2_with fail
  refine wpIn_rangeFunc_goes rfl (by omega) (gf:=97) (lb:=#[.pointer (some ⟨w.heap.size + 1,0,none⟩)]) rfl trivial (enters_of Tryz.func97 (by kernel_rfl) rfl)
   hgo (bkeep_lt HML.out (hr2.more (by simp)) (by simp)) (Below.refl _ _) (fun _ => rfl)
   (fun k W => (W.cell? ⟨w.heap.size,0,none⟩ = some (.int .u64 ((U ((xs.take m).drop (m - k)):Nat):Int))∧W.frozen? ⟨w.heap.size,0,none⟩ = false)∧Below w.heap.size w W)
   (fun _ _ _ => False)
   (OwnFrom.and (Own.from (fun s X Y row hs hg hr => ⟨cell_kept hs.1 hg hr,(frozen_kept hs.1 hg hr).trans hs.2⟩) _) (ownFrom_below (Nat.le_refl _) (by simp; omega)))
   (fun _ _ _ _ _ hs _ _ => hs)
   ⟨⟨by rw [(bS.alloc _).cell]; simp [U,HML.out],(bS.alloc _).frozen⟩,hB0⟩ ?round ?done ?stop
  case round =>
   intro l k W hk _
   simp only [benc]
   gi_wp2
   refine ⟨trivial,?_⟩
   rintro W ⟨⟨hcw,hfw⟩,hBW⟩
   have hdk:=HD.out.nth (m - 1 - k)
   have hsm:U ((xs.take m).drop (m - k)) < 4294967296:=Nat.lt_of_lt_of_le (U_small (HC.out.1.drop _) (k:=1) (by simp; omega)) (by decide)
   have HUL:=Lib.hid (U_last (xs:=xs) hk)
   gi_wp2
   refine ⟨(KeepsOthers.setCell _ _ _).from _,Same.setCell (q:=⟨w.heap.size,0,none⟩) (fun p hp => bkeep_ne HML.out hr1 (Nat.le_refl _) (by omega) k p hp) _,⟨?_,by rw [World.frozen?_setCell]; exact hfw⟩,hBW.setCell (p:=⟨w.heap.size,0,none⟩) (Nat.le_refl _) _⟩
   rw [World.cell?_setCell_same' _ _ _ (by rw [hcw]; rfl),HUL.out,nth_take (by omega),natWord_step hsm hdk]
  case done =>
   rintro D W hD ⟨⟨hcw,_⟩,hBW⟩ hK
   have HQ2:Hid (U ((xs.take m).drop (m - m)) = q):=Lib.hid (by rw [Nat.sub_self]; simpa using HQ.out)
   rw [HQ2.out] at hcw
   gi_wp2
   refine ⟨by simp,.inl ⟨_,_,rfl,run_takeDeferred hK,?_⟩⟩
   exact ⟨_,results_tmp2 rfl _ _ _,rfl,hBW.trans (belowK_b (w:=w) (Nat.le_refl _) W D _ _ (by simp at hD; omega) hK rfl rfl)⟩
  case stop =>
   rintro D c k W _ _ h _
   exact h.elim
 ·
  have hge:18446744073709551616≤U (xs.take m):=Nat.le_trans (by
   have:(4294967296:Nat) ^ 2≤4294967296 ^ (m - 1):=Nat.pow_le_pow_right (by omega) (by omega)
   omega) (by have:=U_ge HC.out (by intro h; rw [h] at hml; simp at hml; omega); rwa [hml] at this)
  rw [fw_out hge] at hq
  rw [fb_out hge] at hz
  subst hz hq
  clear hge hml
  gi_wp2
  refine ⟨_,results_tmp2 rfl _ _ _,rfl,Below.refl _ _⟩
end Go.Proofs.YtgopgbfgbddggaaGreat
