/-
  Of any state that may be, whose tickets are few enough: what all threads are worth is the base's active amount, and the tickets of a coin that is awake are worth what it is. No conditions.
-/
import Derived.Test.YtgopgbfgbddggaaGreatWK29
import Derived.Deep.Slices
import Derived.Deep.Strs
import Derived.Lib.AppendStr
import Derived.Test.YtgopgbfgbddggaaGreatChecked
import Derived.ChangeMaps5
set_option linter.all false
namespace Go.Proofs.YtgopgbfgbddggaaGreat
open Go.ChangeShapes Go.WideShapes Go.ChangeAt Go.RowKit
set_option maxRecDepth 100000
theorem open_rows14 {α:Type} [Inhabited α] {cl:α→List Value} {k:Nat} (hk:∀ x,(cl x).length = k) (hk0:0 < k) {H:Type} {enc:TypeId × Value→H} {W:World} {t e:TypeId} (ht:Tryz.prog.underlying t = some (.slice e)) (he:Tryz.prog.cellsOf e = k)
  (hx:∀ f cs y,cs.length = k→DataW.trod enc Tryz.prog W 0 (fun _ => true) true f e cs = some y→∃ x,cs = cl x) {v:Value} {f:Nat} {y:DataW H × List MemPlace} (h:DataW.trod enc Tryz.prog W 0 (fun _ => true) true f t [v] = some y) :
  ∃ (A:Option Addr) (n c:Nat) (xs:List α),v = .slice A n c∧xs.length = n∧Lq cl W W.heap.size A xs∧n≤c:=by
 rcases Go.Deep.open_slice ht h with ⟨hcs,hy⟩ | ⟨a,len,cap,m,n,D,Pl,hcs,hb,hl,hm,hmm,hy,hel⟩
 ·
  simp at hcs
  subst hcs
  exact ⟨none,0,0,[],rfl,rfl,Lq.nil _ _ _ _,Nat.le_refl _⟩
 ·
  simp at hcs
  subst hcs
  simp only [if_true] at hmm
  have each:∀ i,i < len→∃ x:α,∀ j v,(cl x)[j]? = some v→W.cell? (a.add (i * k + j)) = some v:=by
   intro i hi
   obtain ⟨cs',h1,h2⟩:=hel i (by omega)
   rw [he] at h1
   obtain ⟨_,hlen,hcell⟩:=World.cells?_some h1
   obtain ⟨x,rfl⟩:=hx _ _ _ hlen h2
   refine ⟨x,fun j v hj => ?_⟩
   have hjk:j < k:=by
    have:=(List.getElem?_eq_some_iff.1 hj).1
    rwa [hk] at this
   have:=hcell j hjk
   rw [Go.Deep.add_add] at this
   rw [this]
   exact hj
  obtain ⟨q,hq⟩:=Go.Deep.choose_lt each
  have hll:((List.range len).map q).length = len:=by simp
  refine ⟨some a,len,cap,(List.range len).map q,rfl,hll,fun hne => ?_,hl⟩
  have hpos:0 < len:=by
   rcases Nat.eq_zero_or_pos len with h0 | h0
   ·
    subst h0
    exact absurd rfl hne
   · exact h0
  have hfirst:∃ v,W.cell? a = some v:=by
   have hc0:0 < (cl (q 0)).length:=by rw [hk]; exact hk0
   refine ⟨(cl (q 0))[0],?_⟩
   have:=hq 0 hpos 0 _ (List.getElem?_eq_getElem hc0)
   simpa [Addr.add] using this
  obtain ⟨v0,hv0⟩:=hfirst
  obtain ⟨b,off,spot⟩:=a
  have hspot:spot = none:=by simpa using World.cell?_spot hv0
  subst hspot
  refine ⟨b,off,rfl,World.block_lt_of_cell? W _ hv0,fun j v hj => ?_⟩
  have hjl:j < len * k:=by
   have:=(List.getElem?_eq_some_iff.1 hj).1
   rw [fl14_len hk,hll] at this
   exact this
  have hd:j / k < len:=Nat.div_lt_of_lt_mul (by rw [Nat.mul_comm]; exact hjl)
  have hm':j % k < k:=Nat.mod_lt _ hk0
  have hj2:j / k * k + j % k = j:=by rw [Nat.mul_comm]; exact Nat.div_add_mod j k
  rw [← hj2,fl14_get hk (by rw [hll]; exact hd) hm'] at hj
  have hg:gt14 ((List.range len).map q) (j / k) = q (j / k):=by simp [gt14,hd]
  rw [hg] at hj
  have:=hq (j / k) hd (j % k) v hj
  rw [hj2] at this
  simpa only [Go.WideShapes.add_plain] using this
theorem trod_fld14 {P:Program} {H:Type} {enc:TypeId × Value→H} {w:World} {base:Nat} {spare:Nat→Bool} {held:Bool} {t:TypeId} {fs:Array Field} {fuel:Nat} {cs:List Value} {x:DataW H × List MemPlace} (ht:P.underlying t = some (.struct fs)) (h:DataW.trod enc P w base spare held fuel t cs = some x) :
  ∃ n,∀ (i:Nat) (f:Field),fs[i]? = some f→∃ y,DataW.trod enc P w base spare held n f.type ((cs.drop f.offset).take (P.cellsOf f.type)) = some y:=by
 obtain ⟨xs,n,_,rfl,hl,hlen,hf⟩:=DataW.trod_struct ht h
 refine ⟨n,fun i f hi => ?_⟩
 have hlt:i < fs.size:=(Array.getElem?_eq_some_iff.1 hi).1
 have:=hf i f hi
 rw [List.getElem?_eq_getElem (by omega)] at this
 exact ⟨_,this⟩
theorem cells14_bool:Tryz.prog.cellsOf 4 = 1:=by kernel_rfl
theorem cells14_int:Tryz.prog.cellsOf 3 = 1:=by kernel_rfl
theorem elem14_T {H:Type} {enc:TypeId × Value→H} {W:World} (f:Nat) (cs:List Value) (y:DataW H × List MemPlace) (hl:cs.length = 6) (h:DataW.trod enc Tryz.prog W 0 (fun _ => true) true f 53 cs = some y):∃ x,cs = clT x:=by
 obtain ⟨n,hf⟩:=trod_fld14 Tryz.underlying53 h
 match cs,hl with
 | [z0,z1,z2,z3,z4,z5],_ =>
  obtain ⟨y0,g0⟩:=hf 0 _ rfl
  have g0:DataW.trod enc Tryz.prog W 0 (fun _ => true) true n 4 (([z0,z1,z2,z3,z4,z5].drop 0).take (Tryz.prog.cellsOf 4)) = some y0:=g0
  rw [cells14_bool] at g0
  obtain ⟨x0,e0,_⟩:=DataW.trod_bool Tryz.underlying4 g0
  obtain ⟨y1,g1⟩:=hf 1 _ rfl
  have g1:DataW.trod enc Tryz.prog W 0 (fun _ => true) true n 3 (([z0,z1,z2,z3,z4,z5].drop 1).take (Tryz.prog.cellsOf 3)) = some y1:=g1
  rw [cells14_int] at g1
  obtain ⟨x1,e1,_,_⟩:=DataW.trod_int Tryz.underlying3 g1
  obtain ⟨y2,g2⟩:=hf 2 _ rfl
  have g2:DataW.trod enc Tryz.prog W 0 (fun _ => true) true n 3 (([z0,z1,z2,z3,z4,z5].drop 2).take (Tryz.prog.cellsOf 3)) = some y2:=g2
  rw [cells14_int] at g2
  obtain ⟨x2,e2,_,_⟩:=DataW.trod_int Tryz.underlying3 g2
  obtain ⟨y3,g3⟩:=hf 3 _ rfl
  have g3:DataW.trod enc Tryz.prog W 0 (fun _ => true) true n 3 (([z0,z1,z2,z3,z4,z5].drop 3).take (Tryz.prog.cellsOf 3)) = some y3:=g3
  rw [cells14_int] at g3
  obtain ⟨x3,e3,_,_⟩:=DataW.trod_int Tryz.underlying3 g3
  obtain ⟨y4,g4⟩:=hf 4 _ rfl
  have g4:DataW.trod enc Tryz.prog W 0 (fun _ => true) true n 3 (([z0,z1,z2,z3,z4,z5].drop 4).take (Tryz.prog.cellsOf 3)) = some y4:=g4
  rw [cells14_int] at g4
  obtain ⟨x4,e4,_,_⟩:=DataW.trod_int Tryz.underlying3 g4
  obtain ⟨y5,g5⟩:=hf 5 _ rfl
  have g5:DataW.trod enc Tryz.prog W 0 (fun _ => true) true n 4 (([z0,z1,z2,z3,z4,z5].drop 5).take (Tryz.prog.cellsOf 4)) = some y5:=g5
  rw [cells14_bool] at g5
  obtain ⟨x5,e5,_⟩:=DataW.trod_bool Tryz.underlying4 g5
  simp at e0 e1 e2 e3 e4 e5
  subst e0 e1 e2 e3 e4 e5
  exact ⟨⟨x0,x1,x2,x3,x4,x5⟩,rfl⟩
theorem elem14_H {H:Type} {enc:TypeId × Value→H} {W:World} (f:Nat) (cs:List Value) (y:DataW H × List MemPlace) (hl:cs.length = 5) (h:DataW.trod enc Tryz.prog W 0 (fun _ => true) true f 58 cs = some y):∃ x,cs = clH x:=by
 obtain ⟨n,hf⟩:=trod_fld14 Tryz.underlying58 h
 match cs,hl with
 | [z0,z1,z2,z3,z4],_ =>
  obtain ⟨y0,g0⟩:=hf 0 _ rfl
  have g0:DataW.trod enc Tryz.prog W 0 (fun _ => true) true n 3 (([z0,z1,z2,z3,z4].drop 0).take (Tryz.prog.cellsOf 3)) = some y0:=g0
  rw [cells14_int] at g0
  obtain ⟨x0,e0,_,_⟩:=DataW.trod_int Tryz.underlying3 g0
  obtain ⟨y1,g1⟩:=hf 1 _ rfl
  have g1:DataW.trod enc Tryz.prog W 0 (fun _ => true) true n 3 (([z0,z1,z2,z3,z4].drop 1).take (Tryz.prog.cellsOf 3)) = some y1:=g1
  rw [cells14_int] at g1
  obtain ⟨x1,e1,_,_⟩:=DataW.trod_int Tryz.underlying3 g1
  obtain ⟨y2,g2⟩:=hf 2 _ rfl
  have g2:DataW.trod enc Tryz.prog W 0 (fun _ => true) true n 3 (([z0,z1,z2,z3,z4].drop 2).take (Tryz.prog.cellsOf 3)) = some y2:=g2
  rw [cells14_int] at g2
  obtain ⟨x2,e2,_,_⟩:=DataW.trod_int Tryz.underlying3 g2
  obtain ⟨y3,g3⟩:=hf 3 _ rfl
  have g3:DataW.trod enc Tryz.prog W 0 (fun _ => true) true n 3 (([z0,z1,z2,z3,z4].drop 3).take (Tryz.prog.cellsOf 3)) = some y3:=g3
  rw [cells14_int] at g3
  obtain ⟨x3,e3,_,_⟩:=DataW.trod_int Tryz.underlying3 g3
  obtain ⟨y4,g4⟩:=hf 4 _ rfl
  have g4:DataW.trod enc Tryz.prog W 0 (fun _ => true) true n 3 (([z0,z1,z2,z3,z4].drop 4).take (Tryz.prog.cellsOf 3)) = some y4:=g4
  rw [cells14_int] at g4
  obtain ⟨x4,e4,_,_⟩:=DataW.trod_int Tryz.underlying3 g4
  simp at e0 e1 e2 e3 e4
  subst e0 e1 e2 e3 e4
  exact ⟨⟨x0,x1,x2,x3,x4⟩,rfl⟩
theorem elem14_L {H:Type} {enc:TypeId × Value→H} {W:World} (f:Nat) (cs:List Value) (y:DataW H × List MemPlace) (hl:cs.length = 2) (h:DataW.trod enc Tryz.prog W 0 (fun _ => true) true f 78 cs = some y):∃ x,cs = clL x:=by
 obtain ⟨n,hf⟩:=trod_fld14 Tryz.underlying78 h
 match cs,hl with
 | [z0,z1],_ =>
  obtain ⟨y0,g0⟩:=hf 0 _ rfl
  have g0:DataW.trod enc Tryz.prog W 0 (fun _ => true) true n 4 (([z0,z1].drop 0).take (Tryz.prog.cellsOf 4)) = some y0:=g0
  rw [cells14_bool] at g0
  obtain ⟨x0,e0,_⟩:=DataW.trod_bool Tryz.underlying4 g0
  obtain ⟨y1,g1⟩:=hf 1 _ rfl
  have g1:DataW.trod enc Tryz.prog W 0 (fun _ => true) true n 3 (([z0,z1].drop 1).take (Tryz.prog.cellsOf 3)) = some y1:=g1
  rw [cells14_int] at g1
  obtain ⟨x1,e1,_,_⟩:=DataW.trod_int Tryz.underlying3 g1
  simp at e0 e1
  subst e0 e1
  exact ⟨⟨x0,x1⟩,rfl⟩
theorem elem14_C {H:Type} {enc:TypeId × Value→H} {W:World} (f:Nat) (cs:List Value) (y:DataW H × List MemPlace) (hl:cs.length = 1) (h:DataW.trod enc Tryz.prog W 0 (fun _ => true) true f 4 cs = some y):∃ x,cs = clC x:=by
 obtain ⟨x,rfl,_⟩:=DataW.trod_bool Tryz.underlying4 h
 exact ⟨x,rfl⟩
theorem elem14_I {H:Type} {enc:TypeId × Value→H} {W:World} (f:Nat) (cs:List Value) (y:DataW H × List MemPlace) (hl:cs.length = 1) (h:DataW.trod enc Tryz.prog W 0 (fun _ => true) true f 3 cs = some y):∃ x,cs = clI x:=by
 obtain ⟨x,rfl,_⟩:=DataW.trod_int Tryz.underlying3 h
 exact ⟨x,rfl⟩
theorem open_state14 {H:Type} {enc:TypeId × Value→H} {W:World} {base:Nat} {v:Value} {d:DataW H} {p:List MemPlace} (hv:Value.okWide Tryz.prog W .any base 28 v) (h:DataW.Trod enc Tryz.prog W 0 (fun _ => true) true 28 v d p) :
  ∃ (A0 A1 A2 A3 A4:Option Addr) (n0 n1 n2 n3 n4 c0 c1 c2 c3 c4:Nat) (sq:Int) (S:Sv14),v = .agg #[.slice A0 n0 c0,.slice A1 n1 c1,.slice A2 n2 c2,.slice A3 n3 c3,.slice A4 n4 c4,.int .i64 sq]∧(Small14 n0 n1 n2 n3 n4→SA14 W S A0 A1 A2 A3 A4 n0 n1 n2 n3 n4 c0 c1 c2 c3 c4 sq):=by
 obtain ⟨cs,rfl,hsz⟩:=okWide_struct Tryz.underlying28 hv
 rw [show Tryz.prog.cellsOf 28 = 6 by kernel_rfl] at hsz
 obtain ⟨l,rfl⟩:∃ l:List Value,cs = l.toArray:=⟨cs.toList,by simp⟩
 obtain ⟨fuel,hf⟩:=h
 simp only [Value.cells] at hf
 obtain ⟨n,hg⟩:=trod_fld14 Tryz.underlying28 hf
 match l,hsz with
 | [z0,z1,z2,z3,z4,z5],_ =>
  obtain ⟨y0,g0⟩:=hg 0 _ rfl
  have g0:DataW.trod enc Tryz.prog W 0 (fun _ => true) true n 22 (([z0,z1,z2,z3,z4,z5].drop 0).take (Tryz.prog.cellsOf 22)) = some y0:=g0
  rw [show Tryz.prog.cellsOf 22 = 1 by kernel_rfl] at g0
  obtain ⟨A0,n0,c0,x0,e0,l0,r0,k0⟩:=open_rows14 len14C (by omega) Tryz.underlying22 (by kernel_rfl) elem14_C (v:=z0) (by simpa using g0)
  obtain ⟨y1,g1⟩:=hg 1 _ rfl
  have g1:DataW.trod enc Tryz.prog W 0 (fun _ => true) true n 23 (([z0,z1,z2,z3,z4,z5].drop 1).take (Tryz.prog.cellsOf 23)) = some y1:=g1
  rw [show Tryz.prog.cellsOf 23 = 1 by kernel_rfl] at g1
  obtain ⟨A1,n1,c1,x1,e1,l1,r1,k1⟩:=open_rows14 len14T (by omega) Tryz.underlying23 (by kernel_rfl) elem14_T (v:=z1) (by simpa using g1)
  obtain ⟨y2,g2⟩:=hg 2 _ rfl
  have g2:DataW.trod enc Tryz.prog W 0 (fun _ => true) true n 24 (([z0,z1,z2,z3,z4,z5].drop 2).take (Tryz.prog.cellsOf 24)) = some y2:=g2
  rw [show Tryz.prog.cellsOf 24 = 1 by kernel_rfl] at g2
  obtain ⟨A2,n2,c2,x2,e2,l2,r2,k2⟩:=open_rows14 len14H (by omega) Tryz.underlying24 (by kernel_rfl) elem14_H (v:=z2) (by simpa using g2)
  obtain ⟨y3,g3⟩:=hg 3 _ rfl
  have g3:DataW.trod enc Tryz.prog W 0 (fun _ => true) true n 25 (([z0,z1,z2,z3,z4,z5].drop 3).take (Tryz.prog.cellsOf 25)) = some y3:=g3
  rw [show Tryz.prog.cellsOf 25 = 1 by kernel_rfl] at g3
  obtain ⟨A3,n3,c3,x3,e3,l3,r3,k3⟩:=open_rows14 len14L (by omega) Tryz.underlying25 (by kernel_rfl) elem14_L (v:=z3) (by simpa using g3)
  obtain ⟨y4,g4⟩:=hg 4 _ rfl
  have g4:DataW.trod enc Tryz.prog W 0 (fun _ => true) true n 26 (([z0,z1,z2,z3,z4,z5].drop 4).take (Tryz.prog.cellsOf 26)) = some y4:=g4
  rw [show Tryz.prog.cellsOf 26 = 1 by kernel_rfl] at g4
  obtain ⟨A4,n4,c4,x4,e4,l4,r4,k4⟩:=open_rows14 len14I (by omega) Tryz.underlying26 (by kernel_rfl) elem14_I (v:=z4) (by simpa using g4)
  obtain ⟨y5,g5⟩:=hg 5 _ rfl
  have g5:DataW.trod enc Tryz.prog W 0 (fun _ => true) true n 3 (([z0,z1,z2,z3,z4,z5].drop 5).take (Tryz.prog.cellsOf 3)) = some y5:=g5
  rw [cells14_int] at g5
  obtain ⟨sq,e5,_,_⟩:=DataW.trod_int Tryz.underlying3 g5
  simp at e5
  subst e0 e1 e2 e3 e4 e5
  refine ⟨A0,A1,A2,A3,A4,n0,n1,n2,n3,n4,c0,c1,c2,c3,c4,sq,⟨x0,x1,x2,x3,x4,sq⟩,rfl,fun hs => ?_⟩
  obtain ⟨s0,s1,s2,s3,s4⟩:=hs
  exact ⟨l0,l1,l2,l3,l4,r0,r1,r2,r3,r4,k0,k1,k2,k3,k4,by omega,by omega,by omega,by omega,by omega,rfl⟩
set_option maxRecDepth 100000 in
theorem worthKeeps_lifted (os:Os) (started:os.Started) (H:Type) (enc:TypeId × Value→H) :
  ReturnsInHanded {} Tryz.checked os 4 .any (Rows.worthKeepsSpec.pre6 enc Tryz.prog Tryz.f4 Rows.worthKeepsRow.domain false) (Rows.worthKeepsSpec.post enc Tryz.prog Tryz.f4 false true false false):=by
 refine returnsInHanded_of_change (C:=Tryz.checked) own_knob started (by kernel_rfl) Tryz.func4
  (ChangeSpec.witness6 (enc:=enc) (C:=Tryz.checked) false ⟨#[],#[.agg #[.slice none 0 0,.slice none 0 0,.slice none 0 0,.slice none 0 0,.slice none 0 0,.int .i64 0]],[]⟩ 8 (by kernel_rfl) (by kernel_rfl) (by kernel_rfl) (by kernel_rfl)) ?_
 intro W base args ds gs before hval0 hW hcnd _
 have hval:∀ (j:Nat) t v,Tryz.f4.params[j]? = some t→args[j]? = some v→Value.okWide Tryz.prog W .any base t v:=hval0
 have hW':DataW.Whole enc Tryz.prog Tryz.f4.params.toList Rows.worthKeepsSpec.vars false W args.toList ds gs before:=hW
 obtain ⟨p,q,hA0,hV,hpq,hfz,hnd⟩:=hW
 have hA:DataW.TrodAll enc Tryz.prog W 0 (fun _ => true) true Tryz.f4.params.toList args.toList ds p:=hA0
 rw [Tryz.params4] at hA hval
 obtain ⟨v0,vs0,d0,ds0,p0,q0,hargs,rfl,rfl,t0,r0⟩:=trodAll_cons hA
 obtain ⟨rfl,rfl,rfl⟩:=trodAll_nil r0
 obtain rfl:args = #[v0]:=by cases args; simp_all
 obtain ⟨A00,A01,A02,A03,A04,n00,n01,n02,n03,n04,c00,c01,c02,c03,c04,q0,S0,rfl,h0⟩:=open_state14 (hval 0 28 v0 rfl rfl) t0
 have hwalk:Calls Tryz.prog 4 #[.agg #[.slice A00 n00 c00,.slice A01 n01 c01,.slice A02 n02 c02,.slice A03 n03 c03,.slice A04 n04 c04,.int .i64 q0]] W fun e w' => e = .returned (.bool true)∧Below W.heap.size W w':=worthKeeps_all W A00 A01 A02 A03 A04 n00 n01 n02 n03 n04 c00 c01 c02 c03 c04 q0 S0 h0
 refine hwalk.mono fun e W' ⟨he,hg⟩ => ?_
 subst he
 exact ⟨_,rfl,law_post laid_out (by kernel_rfl) Tryz.underlying4 (by kernel_rfl) rfl hW' rfl hg⟩
theorem worthKeeps_over:Rows.worthKeepsRow.holds Tryz.pinned (OpenSpec.ofChange Rows.worthKeepsSpec) :=
 OpenClaim.holds_of_wide 4 Tryz.f4 rfl rfl rfl rfl rfl rfl rfl ⟨rfl,rfl,rfl,rfl,rfl⟩ rfl rfl rfl rfl rfl (by kernel_rfl) Tryz.func4 (by kernel_rfl)
  (of_decide_eq_true (by kernel_rfl)) (by unfold Func.isWrapper; first | (rw [if_pos (by decide +kernel)]; kernel_rfl) | (rw [if_neg (by decide +kernel)]; exact ⟨rfl,rfl⟩))
  (fun os started H enc _ => worthKeeps_lifted os started H enc)
theorem worthKeeps_holds:Rows.WorthKeepsSaid :=
 worthKeeps_over
end Go.Proofs.YtgopgbfgbddggaaGreat
