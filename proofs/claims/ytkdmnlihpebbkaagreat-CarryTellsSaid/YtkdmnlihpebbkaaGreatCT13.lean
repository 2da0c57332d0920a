import Derived.Test.YtkdmnlihpebbkaaGreatCT12
set_option linter.all false
set_option maxHeartbeats 4000000
namespace Go.Proofs.YtkdmnlihpebbkaaGreat
section
open Go.RowKit Go.Shelf
set_option maxRecDepth 100000
attribute [local go_sem] Oper.semAt_some
structure LStart (w:World) (A2:Option Addr) (n2 c2 N2 gd gs:Nat) (ds:List Nat) (W:World):Prop where
 below:Below w.heap.size w W
 bb:Blk W w.heap.size 44 #[.slice A2 n2 c2]
 q:Blk W (w.heap.size + 1) 44 #[.slice none 0 0]
 r:Blk W (w.heap.size + 2) 44 #[.slice none 0 0]
 dv:Blk W gd 44 #[.slice (some ⟨gs,0,none⟩) n2 N2]
 win:Win W gs 86 [] ds []
 gd0:w.heap.size + 2 < gd
 gs0:w.heap.size + 2 < gs
 ne:gd≠gs
theorem LStart.step {w W W':World} {A2:Option Addr} {n2 c2 N2 gd gs:Nat} {ds:List Nat} (h:LStart w A2 n2 c2 N2 gd gs ds W) (hb:Below W.heap.size W W'):LStart w A2 n2 c2 N2 gd gs ds W' :=
 ⟨h.below.trans (hb.mono h.below.size),h.bb.below hb h.bb.lt,h.q.below hb h.q.lt,h.r.below hb h.r.lt,h.dv.below hb h.dv.lt,h.win.below hb h.win.lt,h.gd0,h.gs0,h.ne⟩
theorem LStart.gdlt {w W:World} {A2:Option Addr} {n2 c2 N2 gd gs:Nat} {ds:List Nat} (h:LStart w A2 n2 c2 N2 gd gs ds W):gd < W.heap.size:=h.dv.lt
structure LBox (w:World) (A2:Option Addr) (n2 c2 N2 N gd gs gr:Nat) (ds:List Nat) (vq:Value) (W:World):Prop where
 below:Below w.heap.size w W
 bb:Blk W w.heap.size 44 #[.slice A2 n2 c2]
 q:Blk W (w.heap.size + 1) 44 #[vq]
 r:Blk W (w.heap.size + 2) 44 #[.slice (some ⟨gr,0,none⟩) N N]
 dv:Blk W gd 44 #[.slice (some ⟨gs,0,none⟩) n2 N2]
 win:Win W gs 86 [] ds []
 gd0:w.heap.size + 2 < gd
 gs0:w.heap.size + 2 < gs
 gdr:gd < gr
 gsr:gs < gr
 ne:gd≠gs
theorem LBox.step {w W W':World} {A2:Option Addr} {n2 c2 N2 N gd gs gr:Nat} {ds:List Nat} {vq:Value} (h:LBox w A2 n2 c2 N2 N gd gs gr ds vq W) (hb:Below W.heap.size W W'):LBox w A2 n2 c2 N2 N gd gs gr ds vq W' :=
 ⟨h.below.trans (hb.mono h.below.size),h.bb.below hb h.bb.lt,h.q.below hb h.q.lt,h.r.below hb h.r.lt,h.dv.below hb h.dv.lt,h.win.below hb h.win.lt,h.gd0,h.gs0,h.gdr,h.gsr,h.ne⟩
theorem LBox.wrote {w W W':World} {A2:Option Addr} {n2 c2 N2 N gd gs gr:Nat} {ds:List Nat} {vq:Value} (h:LBox w A2 n2 c2 N2 N gd gs gr ds vq W) {row:Option Nat} (hg:W.grownBy W' row) (hr:∀ r,row = some r->gr<=r):LBox w A2 n2 c2 N2 N gd gs gr ds vq W':=by
 have h1:=h.gd0;have h2:=h.gs0;have h3:=h.gdr;have h4:=h.gsr;have k:∀ {g:Nat} {t:TypeId} {cs:Array Value},Blk W g t cs->g < gr->Blk W' g t cs:=fun hb hlt => (hg.block _ hb.lt (fun e => by have:=hr _ e.symm; omega)).trans hb
 exact ⟨h.below.grown hg h.below.size (fun r e => by have:=hr r e; omega),k h.bb (by omega),k h.q (by omega),k h.r (by omega),k h.dv (by omega),k h.win (by omega),h1,h2,h3,h4,h.ne⟩
theorem LStart.got {w W:World} {A2:Option Addr} {n2 c2 N2 N gd gs gr:Nat} {ds:List Nat} (h:LStart w A2 n2 c2 N2 gd gs ds W) (h1:gd < gr) (h2:gs < gr) :
  LBox w A2 n2 c2 N2 N gd gs gr ds (.slice none 0 0) (W.setCell ⟨w.heap.size + 1 + 1,0,none⟩ (.slice (some ⟨gr,0,none⟩) N N)):=by
 have h3:=h.gd0;have h4:=h.gs0
 exact ⟨h.below.setCell (by show w.heap.size<=w.heap.size + 1 + 1; omega) _,h.bb.far (by show w.heap.size≠w.heap.size + 1 + 1; omega) _,h.q.far (by show w.heap.size + 1≠w.heap.size + 1 + 1; omega) _,
  h.r.set_ 0 _,h.dv.far (by show gd≠w.heap.size + 1 + 1; omega) _,Blk.far h.win (by show gs≠w.heap.size + 1 + 1; omega) _,h3,h4,h1,h2,h.ne⟩
theorem LBox.fill {w W:World} {A2:Option Addr} {n2 c2 N2 N gd gs gr:Nat} {ds:List Nat} {vq v:Value} (h:LBox w A2 n2 c2 N2 N gd gs gr ds vq W):LBox w A2 n2 c2 N2 N gd gs gr ds v (W.setCell ⟨w.heap.size + 1,0,none⟩ v):=by
 have h3:=h.gd0;have h4:=h.gs0
 exact ⟨h.below.setCell (by show w.heap.size<=w.heap.size + 1; omega) _,h.bb.far (by show w.heap.size≠w.heap.size + 1; omega) _,h.q.set_ 0 _,h.r.far (by show w.heap.size + 2≠w.heap.size + 1; omega) _,
  h.dv.far (by show gd≠w.heap.size + 1; omega) _,Blk.far h.win (by show gs≠w.heap.size + 1; omega) _,h3,h4,h.gdr,h.gsr,h.ne⟩
theorem win_made {w1:World} {g m:Nat} (hown1:w1.ownsRow g 86 1 (.slice (some ⟨g,0,none⟩) m m) m (madeCells (Value.int .u32 0).cells (m * 1)).toList):Win w1 g 86 [] (List.replicate m 0) []:=by
 rcases hown1.2 with ⟨h,_⟩ | ⟨g',cap,c,hv,_,hh,_,_,hsz,ht⟩
 · injection h with h; cases h
 ·
  injection hv with hv _ hcap
  injection hv with hv
  injection hv with hv
  subst hv hcap;unfold Win Blk;rw [hh]
  have:c = (u32s (List.replicate m 0)).toArray:=by
   rw [<- madeCells_u32s m,<- ht,List.take_of_length_le (by simp; omega)]
  rw [this]; simp
def LCur (A v n2 m i gr gq:Nat) (W:World):Prop:=∃ zs qs,LD A v n2 m i zs qs/\Win W gr 86 [] zs []/\Win W gq 86 [] qs []
theorem LCur.kept {A v n2 m i gr gq:Nat} {X Y:World} (h:LCur A v n2 m i gr gq X) {row:Option Nat} (hg:X.grownBy Y row) (hr:∀ r,row = some r->∃ o:Obj,X.heap[r]? = some o/\o.isCells = false):LCur A v n2 m i gr gq Y:=by
 obtain ⟨zs,qs,h1,h2,h3⟩:=h;exact ⟨zs,qs,h1,h2.kept hg hr,h3.kept hg hr⟩
theorem win_cut {W:World} {g:Nat} {t:TypeId} {zs a b c:List Nat} (h:Win W g t [] zs []) (e:a ++ b ++ c = zs):Win W g t (u32s a) b (u32s c):=by
 subst e;unfold Win at *
 simpa [u32s_append] using h
theorem win_join {W:World} {g:Nat} {t:TypeId} {a b c:List Nat} (h:Win W g t (u32s a) b (u32s c)):Win W g t [] (a ++ b ++ c) []:=by
 unfold Win at *
 simpa [u32s_append] using h
theorem win_ra {W:World} {g B:Nat} {t:TypeId} {ds:List Nat} (h:Win W g t [] ds []) (hlt:g < B) (n:Nat):Ra W B (some ⟨g,0,none⟩) (ds.take n) :=
 Ra.take (fun _ => ⟨g,0,rfl,hlt,fun _ hk => h.cell rfl hk⟩) n
theorem keeps_win {W W':World} {g:Nat} {t:TypeId} {L R:List Value} {zs:List Nat} (h:Win W g t L zs R) (hg:W.grownBy W' (some g)):KeepsOthers W W' :=
 KeepsOthers.of_grownBy hg (fun j o e ho => by cases e; rw [show W.heap[g]? = _ from h] at ho; cases ho; rfl)
theorem Win.other {W W':World} {g g':Nat} {t:TypeId} {L R:List Value} {zs:List Nat} (h:Win W g t L zs R) (hg:W.grownBy W' (some g')) (hne:g≠g'):Win W' g t L zs R:=Blk.grown h hg (fun e => hne (by injection e))
theorem long_end {w W W2:World} {A2:Option Addr} {n2 c2 N2 N gd gs gr gq gi m j p Q A v:Nat} {ds zs qs ns:List Nat} {B:Nat}
  (hld:LD A v n2 m (p + 1) zs qs) (hp:m - 1 - j = p) (hpm:p < m) (hj:j < m) (hv:v < 4294967296 ^ n2) (hnl:ns.length = n2 + 1) (hnd:Dg ns) (hQ:Q < 4294967296) (hU:U ns + Q * v = U ((zs.drop p).take (n2 + 1))) (hlt:U ns < v)
  (hbx:LBox w A2 n2 c2 N2 N gd gs gr ds (.slice (some ⟨gq,0,none⟩) m m) W2) (hw:Win W2 gr 86 (u32s (zs.take p)) ns (u32s (zs.drop (p + n2 + 1)))) (hq:Win W2 gq 86 [] qs [])
  (hrq:gr < gq) (hqi:gq < gi) (hsz:B<=W2.heap.size) (hk:KeepsOthers W W2) (hs:Same (bkeep gi (some ⟨gq,0,none⟩) m j) W W2) {C:Nat} :
  KeepsFrom C W (W2.setCell ⟨gq,p,none⟩ (.int .u32 (Q:Int)))/\Same (bkeep gi (some ⟨gq,0,none⟩) m j) W (W2.setCell ⟨gq,p,none⟩ (.int .u32 (Q:Int))) /\
   (LBox w A2 n2 c2 N2 N gd gs gr ds (.slice (some ⟨gq,0,none⟩) m m) (W2.setCell ⟨gq,p,none⟩ (.int .u32 (Q:Int)))/\B<=(W2.setCell ⟨gq,p,none⟩ (.int .u32 (Q:Int))).heap.size/\LCur A v n2 m (m - (j + 1)) gr gq (W2.setCell ⟨gq,p,none⟩ (.int .u32 (Q:Int)))):=by
 refine ⟨(hk.trans (KeepsOthers.setCell _ _ _)).from _,hs.trans (Same.setCell' (fun a ha e => ?_) _),hbx.wrote (wrote_set (World.grownBy.refl W2 (some gq)) p _) (fun r e => by cases e; omega),by rw [setCell_size]; exact hsz,?_⟩
 ·
  rcases ha with rfl | ⟨b,o',j',hA,hj',rfl⟩
  · injection e; omega
  ·
   injection hA with hA
   injection hA with h1 h2
   injection e with e1 e2
   omega
 ·
  have hql:=hld.2.2.1;have hqw:=hq.put (o:=0) rfl (k:=p) (d:=Q) (u:=(Q:Int)) (by omega) rfl;rw [Nat.zero_add] at hqw;rw [show m - (j + 1) = p by omega];exact ⟨_,_,hld.step hpm hv hnl hnd hQ hU hlt,(win_join hw).other (wrote_set (World.grownBy.refl W2 (some gq)) p _) (by omega),hqw⟩
structure LEnd (w:World) (gr gq N m D a b:Nat) (zs qs:List Nat) (W:World):Prop where
 below:Below w.heap.size w W
 q:Blk W (w.heap.size + 1) 44 #[.slice (some ⟨gq,0,none⟩) a m]
 r:Blk W (w.heap.size + 2) 44 #[.slice (some ⟨gr,0,none⟩) b N]
 wr:Win W gr 86 [] zs []
 wq:Win W gq 86 [] qs []
 mark:W.heap[D]? = some (.deferred (some []))
theorem lend_1 {w W:World} {A2:Option Addr} {n2 c2 N2 N gd gs gr gq m D a b:Nat} {ds zs qs:List Nat} {vq:Value} (h:LBox w A2 n2 c2 N2 N gd gs gr ds vq W) (hz:Win W gr 86 [] zs []) (hq:Win W gq 86 [] qs [])
  (hk:W.heap[D]? = some (.deferred (some []))) (hrq:gr < gq) :
  LEnd w gr gq N m D a b zs qs ((W.setCell ⟨w.heap.size + 1,0,none⟩ (.slice (some ⟨gq,0,none⟩) a m)).setCell ⟨w.heap.size + 1 + 1,0,none⟩ (.slice (some ⟨gr,0,none⟩) b N)).drew:=by
 have h1:=h.gd0;have h2:=h.gdr;refine ⟨((h.below.setCell (by show w.heap.size<=w.heap.size + 1; omega) _).setCell (by show w.heap.size<=w.heap.size + 1 + 1; omega) _).drew,?_,?_,?_,?_,?_⟩
 · exact (h.q.set_ 0 (.slice (some ⟨gq,0,none⟩) a m)).far (by show w.heap.size + 1≠w.heap.size + 1 + 1; omega) _
 · exact (h.r.far (by show w.heap.size + 2≠w.heap.size + 1; omega) _).set_ 0 (.slice (some ⟨gr,0,none⟩) b N)
 · exact Blk.far (Blk.far hz (by show gr≠w.heap.size + 1; omega) _) (by show gr≠w.heap.size + 1 + 1; omega) _
 · exact Blk.far (Blk.far hq (by show gq≠w.heap.size + 1; omega) _) (by show gq≠w.heap.size + 1 + 1; omega) _
 · exact (KeepsOthers.setCell _ _ _).same D _ ((KeepsOthers.setCell _ _ _).same D _ hk rfl) rfl
theorem lend_2 {w W:World} {A2:Option Addr} {n2 c2 N2 N gd gs gr gq m D a b:Nat} {ds zs qs:List Nat} {vq:Value} (h:LBox w A2 n2 c2 N2 N gd gs gr ds vq W) (hz:Win W gr 86 [] zs []) (hq:Win W gq 86 [] qs [])
  (hk:W.heap[D]? = some (.deferred (some []))) (hrq:gr < gq) :
  LEnd w gr gq N m D a b zs qs ((W.setCell ⟨w.heap.size + 1 + 1,0,none⟩ (.slice (some ⟨gr,0,none⟩) b N)).setCell ⟨w.heap.size + 1,0,none⟩ (.slice (some ⟨gq,0,none⟩) a m)).drew:=by
 have h1:=h.gd0;have h2:=h.gdr;refine ⟨((h.below.setCell (by show w.heap.size<=w.heap.size + 1 + 1; omega) _).setCell (by show w.heap.size<=w.heap.size + 1; omega) _).drew,?_,?_,?_,?_,?_⟩
 · exact (h.q.far (by show w.heap.size + 1≠w.heap.size + 1 + 1; omega) _).set_ 0 (.slice (some ⟨gq,0,none⟩) a m)
 · exact (h.r.set_ 0 (.slice (some ⟨gr,0,none⟩) b N)).far (by show w.heap.size + 2≠w.heap.size + 1; omega) _
 · exact Blk.far (Blk.far hz (by show gr≠w.heap.size + 1 + 1; omega) _) (by show gr≠w.heap.size + 1; omega) _
 · exact Blk.far (Blk.far hq (by show gq≠w.heap.size + 1 + 1; omega) _) (by show gq≠w.heap.size + 1; omega) _
 · exact (KeepsOthers.setCell _ _ _).same D _ ((KeepsOthers.setCell _ _ _).same D _ hk rfl) rfl
theorem win_nv {W:World} {B g c n x:Nat} {zs:List Nat} (h:Win W g 86 [] zs []) (hl:zs.length = c) (hd:Dg zs) (hB:B<=g) (hn:cl zs = n) (hU:U zs = x):Nv W B (.slice (some ⟨g,0,none⟩) n c) x:=by
 subst hn hU;have hle:=cl_le zs;exact ⟨_,zs.take (cl zs),_,c,rfl,by simp; omega,by omega,win_ra h h.lt _,fun _ => ⟨g,0,rfl,hB⟩,cl_can hd,cl_U zs⟩
def Shifted (ys ds:List Nat) (n s:Nat):Prop:=ds.length = n/\Dg ds/\U ds = U ys * 2 ^ s
theorem lheld {wb W W':World} {p:Addr} {a:Value} (hb:Below W.heap.size W W') (h:W.cell? p = some a/\Below wb.heap.size wb W):W'.cell? p = some a/\Below wb.heap.size wb W' :=
 ⟨(hb.cell (World.block_lt_of_cell? W _ h.1)).trans h.1,h.2.trans (hb.mono h.2.size)⟩
theorem vn1 {w w':World} (hb:Below (w.alloc (.cells #[.slice none 0 0] 44)).heap.size (w.alloc (.cells #[.slice none 0 0] 44)) w') :
  w'.cell? ⟨w.heap.size,0,none⟩ = some (.slice none 0 0)/\w'.frozen? ⟨w.heap.size,0,none⟩ = false:=by
 have h1:=(Blk.new w 44 #[.slice none 0 0]).cell 0;have h2:=(Blk.new w 44 #[.slice none 0 0]).frozen 0;exact ⟨(hb.cell (p:=⟨w.heap.size,0,none⟩) (by simp)).trans h1,(hb.frozen (p:=⟨w.heap.size,0,none⟩) (by simp)).trans h2⟩
theorem vn1d {w w':World} (hb:Below (w.alloc (.cells #[.slice none 0 0] 44)).drew.heap.size (w.alloc (.cells #[.slice none 0 0] 44)).drew w') :
  w'.cell? ⟨w.heap.size,0,none⟩ = some (.slice none 0 0)/\w'.frozen? ⟨w.heap.size,0,none⟩ = false:=by
 have h1:=(Blk.new w 44 #[.slice none 0 0]).cell 0;have h2:=(Blk.new w 44 #[.slice none 0 0]).frozen 0;have hl:w.heap.size < (w.alloc (.cells #[.slice none 0 0] 44)).drew.heap.size:=by show w.heap.size < (w.alloc _).heap.size; simp
 exact ⟨(hb.cell (p:=⟨w.heap.size,0,none⟩) hl).trans h1,(hb.frozen (p:=⟨w.heap.size,0,none⟩) hl).trans h2⟩
theorem lstart_1 {w w' u1:World} {A2:Option Addr} {n2 c2 N2:Nat} {ds:List Nat} (hB0:Below w.heap.size w w') (hs0:w.heap.size + 2 < w'.heap.size)
  (E1:Blk w' w.heap.size 44 #[.slice A2 n2 c2]) (E2:Blk w' (w.heap.size + 1) 44 #[.slice none 0 0]) (E3:Blk w' (w.heap.size + 2) 44 #[.slice none 0 0])
  (hdb:Below w'.drew.heap.size w'.drew u1) (hwin:Win u1 w'.drew.heap.size 86 [] ds []) :
  LStart w A2 n2 c2 N2 u1.heap.size w'.heap.size ds (u1.alloc (.cells #[.slice (some ⟨w'.heap.size,0,none⟩) n2 N2] 44)):=by
 have hsz:w'.heap.size<=u1.heap.size:=hdb.size;have hlt:w'.heap.size < u1.heap.size:=hwin.lt
 have k:∀ {g:Nat} {cs:Array Value},Blk w' g 44 cs->Blk (u1.alloc (.cells #[.slice (some ⟨w'.heap.size,0,none⟩) n2 N2] 44)) g 44 cs :=
  fun h => (Blk.below (w:=w'.drew) h hdb h.lt).alloc _
 exact ⟨(hB0.trans ((show Below w.heap.size w' w'.drew from (Below.refl _ _).drew).trans (hdb.mono (by show w.heap.size<=w'.heap.size; omega)))).alloc (by omega) _,k E1,k E2,k E3,Blk.new _ _ _,Blk.alloc hwin _,by omega,by omega,by omega⟩
theorem lstart_2 {w w' u1:World} {A2:Option Addr} {n2 c2 N2:Nat} {ds:List Nat} (hB0:Below w.heap.size w w') (hs0:w.heap.size + 2 < w'.heap.size)
  (E1:Blk w' w.heap.size 44 #[.slice A2 n2 c2]) (E2:Blk w' (w.heap.size + 1) 44 #[.slice none 0 0]) (E3:Blk w' (w.heap.size + 2) 44 #[.slice none 0 0])
  (hdb:Below (w'.alloc (.cells #[.slice none 0 0] 44)).drew.heap.size (w'.alloc (.cells #[.slice none 0 0] 44)).drew u1)
  (hwin:Win u1 (w'.alloc (.cells #[.slice none 0 0] 44)).drew.heap.size 86 [] ds []) :
  LStart w A2 n2 c2 N2 w'.heap.size (w'.heap.size + 1) ds (u1.setCell ⟨w'.heap.size,0,none⟩ (.slice (some ⟨w'.heap.size + 1,0,none⟩) n2 N2)):=by
 have hsa:(w'.alloc (.cells #[.slice none 0 0] 44)).drew.heap.size = w'.heap.size + 1:=by show (w'.alloc _).heap.size = _; simp
 have hsz:=hdb.size;rw [hsa] at hwin hsz
 have k:∀ {g:Nat} {cs:Array Value},Blk w' g 44 cs->g≠w'.heap.size->Blk (u1.setCell ⟨w'.heap.size,0,none⟩ (.slice (some ⟨w'.heap.size + 1,0,none⟩) n2 N2)) g 44 cs :=
  fun h hne => Blk.far (Blk.below (w:=(w'.alloc (.cells #[.slice none 0 0] 44)).drew) (h.alloc _) hdb (h.alloc _).lt) hne _
 have hv:=Blk.set_ (Blk.below (w:=(w'.alloc (.cells #[.slice none 0 0] 44)).drew) (Blk.new w' 44 #[.slice none 0 0]) hdb (by rw [hsa]; omega)) 0 (.slice (some ⟨w'.heap.size + 1,0,none⟩) n2 N2);refine ⟨?_,k E1 (by omega),k E2 (by omega),k E3 (by omega),hv,Blk.far hwin (by simp) _,by omega,by omega,by omega⟩
 exact (hB0.trans (((b1 w' (.cells #[.slice none 0 0] 44)).mono (by omega)).trans ((show Below w.heap.size (w'.alloc (.cells #[.slice none 0 0] 44)) (w'.alloc (.cells #[.slice none 0 0] 44)).drew from (Below.refl _ _).drew).trans (hdb.mono (by rw [hsa]; omega))))).setCell (by show w.heap.size<=w'.heap.size; omega) _
theorem divLong_any (A1 A2:Option Addr) (xs ys:List Nat) (k n1 c1 n2 c2:Nat) (w:World) (hk:n2 = k + 2) (hl1:xs.length = n1) (hl2:ys.length = n2) (hr1:Ra w w.heap.size A1 xs) (hr2:Ra w w.heap.size A2 ys)
  (hx:Dg xs) (hy:Cn ys) (h12:n2<=n1) (hn:n1<=100000) (hc1:n1<=c1) (hc2:n2<=c2) :
  Calls Tryz.prog 129 #[.slice A1 n1 c1,.slice A2 n2 c2] w fun e w' => ∃ v1 v2,e = .returned (.tuple #[v1,v2])/\Nv w' w.heap.size v1 (U xs / U ys)/\Nv w' w.heap.size v2 (U xs % U ys)/\Below w.heap.size w w':=by
 have HL1:=qz hl1;have HL2:=qz hl2;have HY:=qz hy;have HK:=qz hk;have hn2:2<=n2:=by omega
 have h0:nth ys (n2 - 1)≠0:=by
  have:=hy.2 (by intro h; rw [h] at hl2; simp at hl2; omega)
  rwa [hl2] at this
 have hyb:=hy.1.nth (n2 - 1);obtain ⟨b2,o2,hA2,hb2,cy⟩:=hr2.at_ (k:=n2 - 1) (by omega);subst hA2;obtain ⟨top,htop⟩:=exq (nth ys (n2 - 1));rw [htop] at h0 hyb cy;obtain ⟨s,hs⟩:∃ s,Lib.bitLen top + s = 32:=⟨32 - Lib.bitLen top,by have:=Lib.bitLen_le top 32 (by omega) (Nat.lt_of_lt_of_le hyb (by decide)); omega⟩
 have hs31:s<=31:=by have:=(lead_top hyb h0 rfl).1; omega
 have hlz:(32:Int) - (Lib.bitLen top:Int) = (s:Int):=by omega
 have HLZ:=qz hlz;have HS:=qz hs;have H0:=qz h0;have HTOP:=qz htop;have hup2:=fun wz (h:Below w.heap.size w wz) => shiftUp_any (some ⟨b2,o2,none⟩) ys n2 c2 s wz HL2.out ((hr2.below h (Nat.le_refl _)).more h.size) HY.out.1 (by omega) hs31
 have hup1:=fun wz (h:Below w.heap.size w wz) => shiftUp_any A1 xs n1 c1 s wz HL1.out ((hr1.below h (Nat.le_refl _)).more h.size) hx hn hs31
 obtain ⟨N2,hN2⟩:=exq (n2 + 1);simp only [hN2] at hup2;have HN2:=qz hN2;have hi0:(0:Int)<=(n2:Int):=by omega
 have hi1:(n2:Int)<=(N2:Int):=by omega
 have hi2:n2<=N2:=by omega
 have HUP1:=qz hup1;have HUP2:=qz hup2;clear hl1 hl2 hy h0 hs hlz hup1 hup2 hk htop hN2;refine calls_of_leave Tryz.func129 rfl ?_;simp only [Tryz.ntmps129,List.size_toArray,List.length_cons,List.length_nil,Nat.reduceAdd,Nat.reduceSub,Array.replicate_succ,Array.replicate_zero,List.push_toArray,List.append_toArray,List.nil_append,List.cons_append]
 go_upto_region 1 with (fail)
 obtain ⟨W0,hW0⟩:=exq (((w.alloc (.cells #[.slice (some ⟨b2,o2,none⟩) n2 c2] 44)).alloc (.cells #[.slice none 0 0] 44)).alloc (.cells #[.slice none 0 0] 44));have hs0:w.heap.size + 2 < W0.heap.size:=by rw [<- hW0]; simp
 have hB0:Below w.heap.size w W0:=by rw [<- hW0]; exact (((Below.refl _ w).alloc (Nat.le_refl _) _).alloc (by simp) _).alloc (by simp; omega) _
 have e1:Blk W0 w.heap.size 44 #[.slice (some ⟨b2,o2,none⟩) n2 c2]:=by rw [<- hW0]; exact ((Blk.new w _ _).alloc _).alloc _
 have e2:Blk W0 (w.heap.size + 1) 44 #[.slice none 0 0]:=by
  rw [<- hW0];have:=(Blk.new (w.alloc (.cells #[.slice (some ⟨b2,o2,none⟩) n2 c2] 44)) 44 #[.slice none 0 0]).alloc (.cells #[.slice none 0 0] 44);rw [World.size_alloc] at this;exact this
 have e3:Blk W0 (w.heap.size + 2) 44 #[.slice none 0 0]:=by
  rw [<- hW0];have:=Blk.new ((w.alloc (.cells #[.slice (some ⟨b2,o2,none⟩) n2 c2] 44)).alloc (.cells #[.slice none 0 0] 44)) 44 #[.slice none 0 0];rw [World.size_alloc,World.size_alloc] at this;exact this
 have cy0:=(hB0.cell (p:=⟨b2,o2 + (n2 - 1),none⟩) hb2).trans cy;have c1':=e1.cell 0;have E1:=qz e1;have E2:=qz e2;have E3:=qz e3;clear e1 e2 e3 cy;rw [hW0];clear hW0;go_wp2_with fail;refine (Tryz.bits_LeadingZeros32 (top:Int) _ (by omega) (by omega)).mono ?_;rintro e w' ⟨rfl,rfl⟩;rw [Int.toNat_natCast,HLZ.out];go_upto_region 2 with (fail)
 go_cut [7] from 18 to 24 (fun v wx => ∃ gd gs ds,v = .pointer (some ⟨gd,0,none⟩)/\LStart w (some ⟨b2,o2,none⟩) n2 c2 N2 gd gs ds wx/\Shifted ys ds N2 s)
 case first =>
  go_region_held3 (fun u => u.cell? ⟨w.heap.size,0,none⟩ = some (.slice (some ⟨b2,o2,none⟩) n2 c2)/\Below w'.heap.size w' u)
   (first | exact ⟨c1',(Below.refl _ _).drew⟩ | assumption | exact lheld (b1 _ _) (by assumption) | exact lheld (b1 _ _) ⟨c1',(Below.refl _ _).drew⟩ | exact held_set1 (Nat.le_refl _) (by show w.heap.size < _; omega) (by assumption) | exact held_set1 (snd_of hS1).size (by show w.heap.size < _; omega) (by assumption))
   (first
    | (go_at_call 142; (with_reducible refine (HUP2.out _ (hB0.trans ((snd_of (by assumption)).mono (by omega)))).mono ?_); rintro e u1 ⟨ds,rfl,hdl,hdd,hdU,hdw,hdb⟩; have hS1:=lheld hdb (by assumption); (try (have hV:=vn1d hdb; obtain ⟨V1,V2⟩:=hV)); (try (have hV:=vn1 hdb; obtain ⟨V1,V2⟩:=hV)); have N1:=qz (And.intro hdl (And.intro hdd (And.intro hdU hdw))); clear hdl hdd hdU hdw))
  all_goals
   go_wp2_with fail;go_meet
   first
    | exact ⟨_,_,ds,rfl,lstart_1 hB0 hs0 E1.out E2.out E3.out hdb N1.out.2.2.2,N1.out.1,N1.out.2.1,N1.out.2.2.1⟩
    | exact ⟨_,_,ds,rfl,lstart_2 hB0 hs0 E1.out E2.out E3.out hdb N1.out.2.2.2,N1.out.1,N1.out.2.1,N1.out.2.2.1⟩
 case rest =>
  obtain ⟨gd,gs,ds,rfl,hst,hsh⟩:=hcut;have hup1:=HUP1.out wc hst.below;obtain ⟨N,hN⟩:=exq (n1 + 1);rw [hN] at hup1;have HN:=qz hN;have HST:=qz hst;have HSH:=qz hsh;clear hN hst hsh E1 E2 E3 hs0 hB0 cy0 c1';go_wp2_with fail;refine hup1.mono ?_;rintro e u ⟨zs,rfl,hzl,hzd,hzU,hzw,hzb⟩;have hst2:=HST.out.step hzb
  have d3:u.cell? ⟨w.heap.size + 1 + 1,0,none⟩ = some (.slice none 0 0):=hst2.r.cell 0;have f3:u.frozen? ⟨w.heap.size + 1 + 1,0,none⟩ = false:=hst2.r.frozen 0;have HS2:=qz hst2;have HZ:=qz (And.intro hzl (And.intro hzd hzU));have HZW:=qz hzw;have hgr0:=HST.out.gdlt;have hgr1:=HST.out.win.lt;have hur:=hzw.lt;obtain ⟨gr,hgr⟩:=exq wc.heap.size
  rw [hgr] at HZW hgr0 hgr1 hur;rw [hgr];clear hst2 hzl hzd hzU hzw HST hup1 hzb hgr;go_upto_region 4 with (fail)
  have hbx:=HS2.out.got (N:=N) hgr0 hgr1;have hzw:Win (u.setCell ⟨w.heap.size + 1 + 1,0,none⟩ (.slice (some ⟨gr,0,none⟩) N N)) gr 86 [] zs []:=Blk.far HZW.out (by show gr≠w.heap.size + 1 + 1; have:=HS2.out.gd0; omega) _;have hw3s:gr < (u.setCell ⟨w.heap.size + 1 + 1,0,none⟩ (.slice (some ⟨gr,0,none⟩) N N)).heap.size:=hzw.lt
  obtain ⟨W3,hW3⟩:=exq (u.setCell ⟨w.heap.size + 1 + 1,0,none⟩ (.slice (some ⟨gr,0,none⟩) N N));rw [hW3] at hbx hzw hw3s ⊢;clear HS2 HZW d3 f3 hur hW3;have c1b:=hbx.bb.cell 0;have HBX:=qz hbx;have HZW:=qz hzw;obtain ⟨m,hm⟩:=exq (n1 - n2 + 1);have hmi:(n1:Int) - (n2:Int) + 1 = (m:Int):=by omega
  have hmN:m + n2 = N:=by have:=HN.out; omega
  have HM:=qz hm;have HMI:=qz hmi;have HMN:=qz hmN;obtain ⟨i0,hi0,hz0,hz1,hz2⟩:=info_parts info_u32;have hmb:m<=200000:=by omega
  clear hbx hzw hm hmi hmN
  go_wp2_with ((with_reducible refine wpList_make_full _ rfl (.tmp 32) (.tmp 32) 44 rfl W3.heap.size 86 i0 (.int .u32 0) 1 Tryz.underlying44 hi0 hz0 hz1 .i64 .i64 _ _ m rfl rfl (by have:=HMI.out; omega) (by have:=HMI.out; omega) (by rw [hz2]; omega) (by unfold maxLen; omega) (by simp) ?_); intro w1 hown1 hg1; have hbx1:=HBX.out.wrote hg1 (by intro r e; cases e); have d2:=hbx1.q.cell 0; have f2:=hbx1.q.frozen 0; have HB1:=qz hbx1; clear hbx1)
  obtain ⟨gq,hgq⟩:=exq W3.heap.size;rw [hgq] at hown1 ⊢;rw [hgq] at hw3s;have hwq:=win_made hown1;have hwz:Win w1 gr 86 [] zs []:=(HZW.out.kept hg1 (by intro r e; cases e))
  have hgql:=hwq.lt;obtain ⟨W4,hW4⟩:=exq (w1.setCell ⟨w.heap.size + 1,0,none⟩ (.slice (some ⟨gq,0,none⟩) m m));have hb4:LBox w (some ⟨b2,o2,none⟩) n2 c2 N2 N gd gs gr ds (.slice (some ⟨gq,0,none⟩) m m) W4:=by rw [<- hW4]; exact HB1.out.fill
  have hgd0:=hb4.gd0;have hgs0:=hb4.gs0;have hwz4:Win W4 gr 86 [] zs []:=by rw [<- hW4]; exact Blk.far hwz (by show gr≠w.heap.size + 1; omega) _
  have hwq4:Win W4 gq 86 [] (List.replicate m 0) []:=by rw [<- hW4]; exact Blk.far hwq (by show gq≠w.heap.size + 1; omega) _
  have hgq4:gq < W4.heap.size:=hwq4.lt;rw [hW4];clear hown1 hwq hwz hgql hg1 d2 f2 hz0 hz1 hz2 hi0 hgq hW4 HBX HB1 HZW c1b;have HB4:=qz hb4;have HWZ4:=qz hwz4;have HWQ4:=qz hwq4;clear hb4 hwz4 hwq4;refine (backw_calls _ _ _ _).mono ?_;rintro e w' ⟨rfl,rfl⟩;have hb5:=HB4.out.step (b1 W4 (.cells #[.slice (some ⟨gq,0,none⟩) m m] 44))
  have hwz5:=Blk.alloc HWZ4.out (.cells #[.slice (some ⟨gq,0,none⟩) m m] 44);have hwq5:=Blk.alloc HWQ4.out (.cells #[.slice (some ⟨gq,0,none⟩) m m] 44);have hbi5:=Blk.new W4 44 #[.slice (some ⟨gq,0,none⟩) m m];obtain ⟨gi,hgi⟩:=exq W4.heap.size;obtain ⟨W5,hW5⟩:=exq (W4.alloc (.cells #[.slice (some ⟨gq,0,none⟩) m m] 44));rw [hgi] at hgq4 hbi5
  rw [hW5] at hb5 hwz5 hwq5 hbi5;rw [hgi,hW5];have hgi5:gi < W5.heap.size:=hbi5.lt;have hwq5':Win W5 gq 86 [] (List.replicate m 0) []:=hwq5;have hra5:=hwq5'.reads (o:=0) rfl;have hgo:=backw_goes Fence.wide 4 trivial rfl (by omega) gi (some ⟨gq,0,none⟩) (List.replicate m 0) m m W5 (by simp) hra5 (by omega) (Nat.le_refl _) (hbi5.cell 0)
  obtain ⟨hdl,hdd,hdU⟩:=HSH.out;have hk1:n2 - 1 = k + 1:=by have:=HK.out; omega
  obtain ⟨hnU,hntop,hnv⟩:=norm_div (k:=k) (s:=s) HY.out.1 (by rw [<- hk1,HTOP.out]; exact H0.out) (by rw [HL2.out,HK.out]) (by rw [hdl]; have:=HK.out; have:=HN2.out; omega) hdd (by rw [<- hk1,HTOP.out]; exact HS.out) hdU;rw [<- HK.out] at hnU hnv;obtain ⟨v,hv⟩:=exq (U ys * 2 ^ s);obtain ⟨A,hA⟩:=exq (U xs * 2 ^ s)
  have hld0:LD A v n2 m m zs (List.replicate m 0):=by
   rw [<- hA,<- hv];exact LD.start (by rw [HZ.out.1,HMN.out]) (by rw [HMN.out,HN.out]) (by omega) HZ.out.2.1 (by have:=U_lt hx; rwa [HL1.out] at this) (by have:=U_ge HY.out (by intro h; have:=HL2.out; rw [h] at this; simp at this; omega); rwa [HL2.out] at this) (Nat.pow_pos (by omega)) HZ.out.2.2
  have hI0:LBox w (some ⟨b2,o2,none⟩) n2 c2 N2 N gd gs gr ds (.slice (some ⟨gq,0,none⟩) m m) W5/\W5.heap.size<=W5.heap.size/\LCur A v n2 m (m - 0) gr gq W5:=⟨hb5,Nat.le_refl _,zs,_,hld0,hwz5,hwq5⟩
  rw [hv] at hnU hnv;have HI0:=qz hI0;have HNU:=qz hnU;have HNV:=qz hnv;have HNT:=qz hntop;have HV:=qz hv;have HA:=qz hA;have HDD:=qz (And.intro hdl hdd);clear hI0 hnU hnv hntop hv hA hdl hdd hdU hld0 hb5 hwz5 hwq5 hwq5' hbi5 hW5 hgi hk1;go_wp2_with fail;refine (wpIn_wide (n:=5)).1 ?_
  refine wpIn_rangeFunc_goes rfl (by omega) (gf:=84) (lb:=#[.pointer (some ⟨gi,0,none⟩)]) rfl trivial (enters_of Tryz.func84 (by kernel_rfl) rfl)
   hgo (bkeep_lt (by simp) hra5 (by omega)) (Below.refl _ _) (fun _ => rfl)
   (fun k W => LBox w (some ⟨b2,o2,none⟩) n2 c2 N2 N gd gs gr ds (.slice (some ⟨gq,0,none⟩) m m) W/\W5.heap.size<=W.heap.size/\LCur A v n2 m (m - k) gr gq W) (fun _ _ _ => False)
   (fun s X Y row hs hg hr => ⟨hs.1.wrote hg (fun r e => by have:=(hr r e).1; omega),Nat.le_trans hs.2.1 hg.size,hs.2.2.kept hg (fun r e => (hr r e).2)⟩) (fun _ _ _ _ _ hs _ _ => hs) HI0.out ?round ?done ?stop
  case round =>
   intro l j W hj _;simp only [benc];gi_wp2;refine ⟨trivial,?_⟩;rintro W ⟨hbx,hW5,zs,qs,hld,hwz,hwq⟩;obtain ⟨p,hp⟩:=exq (m - 1 - j);have hpm:p < m:=by omega
   rw [hp];rw [show m - j = p + 1 by omega] at hld;obtain ⟨hpl,hpd,hpu,hpz,hpn⟩:=hld.part hpm HNV.out;obtain ⟨ps,hps⟩:=exq ((zs.drop p).take (n2 + 1));rw [hps] at hpl hpd hpu hpz;rw [HN2.out] at hpl;have hwp:=win_cut hwz hpz;have hLl:(u32s (zs.take p)).length = p:=by rw [u32s_length]; have:=hld.1; simp; omega
   have hdt:(ds.take n2).length = n2:=by have:=HDD.out.1; simp; omega
   have c1b:=hbx.bb.cell 0;have c2b:=hbx.q.cell 0;have c3b:W.cell? ⟨w.heap.size + 1 + 1,0,none⟩ = some (.slice (some ⟨gr,0,none⟩) N N):=hbx.r.cell 0;have c4b:=hbx.dv.cell 0;have HP:=qz hp;have HLD:=qz hld;have HPS:=qz hps;have HPL:=qz (And.intro hpl (And.intro hpd hpu));have HWP:=qz hwp;have HWQ:=qz hwq;have HBX:=qz hbx;have HLl:=qz hLl;have HDT:=qz hdt
   have hpN:p + n2 + 1<=N:=by have:=HMN.out; omega
   have hN2i:(n2:Int) + 1 = (N2:Int):=by have:=HN2.out; omega
   have i1:(0:Int)<=(p:Int):=by omega
   have i2:(p:Int) + (n2:Int) + 1<=(N:Int):=by omega
   have i3:(p:Int) < (m:Int):=by omega
   clear hp hld hps hpl hpd hpu hpz hpn hwp hwz hwq hbx hLl hdt;gi_wp2_with fail;obtain ⟨cp,hcp⟩:=exq (N - p);have hcN:N2<=cp:=by omega
   rw [show p + n2 + 1 - p = N2 by omega,hcp];clear hcp;have hlt:U ps < U (ds.take n2) * 4294967296:=by rw [HNU.out]; exact HPL.out.2.2
   have hft:2147483648<=nth (ds.take n2) (k + 1):=by rw [nth_take (by have:=HK.out; omega)]; exact HNT.out
   have HLT:=qz hlt;have HFT:=qz hft;clear hlt hft
   refine ⟨trivial,(CallsIn.inRound l (callsIn_wide.2 (guess_any (some ⟨gr,p,none⟩) (some ⟨gs,0,none⟩) ps (ds.take n2) k n2 N2 cp N2 W HK.out (by have:=HK.out; omega) HPL.out.1 HDT.out HPL.out.2.1 (HDD.out.2.take _) (HWP.out.reads HLl.out) (win_ra HBX.out.win HBX.out.win.lt n2) (by have:=HK.out; omega) HFT.out HLT.out))).mono ?_⟩
   rintro e W1 ⟨d,rfl,hdb,hQ1,hQ2,hb1⟩;rw [HNU.out] at hQ1 hQ2;have hbx1:=HBX.out.step hb1;have hwp1:=HWP.out.below hb1 HWP.out.lt;have hwq1:=HWQ.out.below hb1 HWQ.out.lt;have hW1:=Nat.le_trans hW5 hb1.size;have hbkl:∀ q,bkeep gi (some ⟨gq,0,none⟩) m j q->q.block < W.heap.size:=fun q hq => Nat.lt_of_lt_of_le (bkeep_lt (by simp) hra5 (by omega) j q hq) hW5
   have hk1:KeepsOthers W W1:=KeepsOthers.of_below hb1;have hsm1:Same (bkeep gi (some ⟨gq,0,none⟩) m j) W W1:=Same.of_below hb1 hbkl;have HB1:=qz hbx1;have HWP1:=qz hwp1;have HWQ1:=qz hwq1;have HK1:=qz hk1;have HSM1:=qz hsm1;have c4b1:=hbx1.dv.cell 0;have hW5':=hW1;obtain ⟨Q,hQ⟩:=exq (U ps / v);have HQ:=qz hQ;rw [hQ] at hQ1 hQ2
   clear hbx1 hwp1 hwq1 hk1 hsm1 hb1 hbkl hQ c1b c2b c3b c4b HBX HWP HWQ hW1 hW5;gi_wp2_with fail
   refine ⟨trivial,(CallsIn.inRound l (callsIn_wide.2 (takeOff_any gr p (u32s (zs.take p)) (u32s (zs.drop (p + n2 + 1))) ps (ds.take n2) d N2 cp n2 N2 (some ⟨gs,0,none⟩) W1 HPL.out.1 HDT.out HLl.out HWP1.out (win_ra HB1.out.win HB1.out.gsr n2) HPL.out.2.1 (HDD.out.2.take _) (by omega) hi2 hcN (by omega)))).mono ?_⟩
   rintro e W2 ⟨T,ns,rfl,hnl,hnd,hnU,hnw,hng⟩;rw [HNU.out] at hnU;have hbx2:=HB1.out.wrote hng (fun r e => by cases e; exact Nat.le_refl _);have hwq2:=HWQ1.out.other hng (by omega);have hk2:=HK1.out.trans (keeps_win HWP1.out hng)
   have hne2:∀ q,bkeep gi (some ⟨gq,0,none⟩) m j q->some q.block≠some gr:=fun q hq e => by
    rcases hq with rfl | ⟨b,o',j',hA,hj',rfl⟩
    · injection e with e; simp at e; omega
    ·
     injection hA with hA
     injection hA with h1 h2
     injection e with e; simp at e; omega
   have hsm2:=HSM1.out.trans (Same.of_written hng hne2);have hW2:=Nat.le_trans hW5' hng.size
   have hvp:0 < v:=by
    have:=HPL.out.2.2;rcases Nat.eq_zero_or_pos v with h | h
    · rw [h] at this; omega
    · exact h
   have hq1:Q * v<=U ps:=by rw [<- HQ.out]; exact Nat.div_mul_le_self _ _
   have hq2:U ps < (Q + 1) * v:=by
    have h1:=Nat.div_add_mod (U ps) v;have h3:=Nat.mod_lt (U ps) hvp;rw [HQ.out,Nat.mul_comm] at h1;rw [Nat.add_mul,Nat.one_mul];omega
   have hnX:U ns < 4294967296 ^ N2:=by have:=U_lt hnd; rwa [hnl] at this
   have hvX:v<=4294967296 ^ N2:=Nat.le_trans (Nat.le_of_lt HNV.out) (Nat.pow_le_pow_right (by omega) hi2);have hrem:U ps - Q * v < v:=by rw [Nat.add_mul,Nat.one_mul] at hq2; omega
   have honce:=once_more hnU hnX hq1 hq2 (show d = Q\/d = Q + 1 by omega) hvX;have HB2:=qz hbx2;have HWQ2:=qz hwq2;have HK2:=qz hk2;have HSM2:=qz hsm2;have HNW:=qz hnw;have HNN:=qz (And.intro hnl hnd);have HQ1:=qz hq1;have HREM:=qz hrem;have c2b2:=hbx2.q.cell 0;have c4b2:=hbx2.dv.cell 0;have HVX:=qz hvX
   clear hbx2 hwq2 hk2 hsm2 hnw hng hnl hnd hnU hq1 hq2 hrem hnX hvX hne2 HB1 HWP1 HWQ1 HK1 HSM1 c4b1 hQ1 hQ2 HFT HLT;rcases honce with ⟨rfl,rfl,hz⟩ | ⟨rfl,rfl,hz⟩
   ·
    have HZ1:=qz hz;clear hz;rw [nz_no];have fq:=HWQ2.out.frozen p;have hql:p < qs.length:=by rw [HLD.out.2.2.1]; exact hpm
    have cqp:=HWQ2.out.cell (o:=0) rfl hql;rw [Nat.zero_add] at cqp;have HQL:=qz hql;clear hql;gi_wp2_with fail;exact long_end HLD.out HP.out hpm hj HNV.out (by rw [HNN.out.1]; exact HN2.out.symm) HNN.out.2 hdb (by rw [HPS.out,HZ1.out]; have:=HQ1.out; omega) (by rw [HZ1.out]; exact HREM.out) HB2.out HNW.out HWQ2.out hw3s hgq4 hW2 HK2.out HSM2.out
   ·
    have HZ1:=qz hz;clear hz;rw [nz_yes (by omega)];gi_wp2_with fail
    refine ⟨trivial,(CallsIn.inRound l (callsIn_wide.2 (addInto_any gr p (u32s (zs.take p)) (u32s (zs.drop (p + n2 + 1))) ns (ds.take n2) N2 cp n2 N2 (some ⟨gs,0,none⟩) W2 HNN.out.1 HDT.out HLl.out HNW.out (win_ra HB2.out.win HB2.out.gsr n2) HNN.out.2 (HDD.out.2.take _) (by omega) hi2 hcN))).mono ?_⟩;rintro e W3' ⟨ov,ns2,rfl,hnl3,hnd3,hnU3,hov,hnw3,hng3⟩
    rw [HNU.out] at hnU3;have hx3:U ns2 < 4294967296 ^ N2:=by have:=U_lt hnd3; rwa [hnl3] at this
    have hz3:U ns2 = U ps - Q * v:=by
     have h1:=HZ1.out;rcases (show ov = 0\/ov = 1 by omega) with rfl | rfl
     · omega
     · omega
    have hbx3:=HB2.out.wrote hng3 (fun r e => by cases e; exact Nat.le_refl _);have hwq3:=HWQ2.out.other hng3 (by omega);have hk3:=HK2.out.trans (keeps_win HNW.out hng3)
    have hne3:∀ q,bkeep gi (some ⟨gq,0,none⟩) m j q->some q.block≠some gr:=fun q hq e => by
     rcases hq with rfl | ⟨b,o',j',hA,hj',rfl⟩
     · injection e with e; simp at e; omega
     ·
      injection hA with hA
      injection hA with h1 h2
      injection e with e; simp at e; omega
    have hsm3:=HSM2.out.trans (Same.of_written hng3 hne3);have hW3':=Nat.le_trans hW2 hng3.size;have HB3:=qz hbx3;have HWQ3:=qz hwq3;have HK3:=qz hk3;have HSM3:=qz hsm3;have HNW3:=qz hnw3;have HNN3:=qz (And.intro hnl3 hnd3);have HZ3:=qz hz3;have c2b3:=hbx3.q.cell 0;have fq:=hwq3.frozen p;have hql:p < qs.length:=by rw [HLD.out.2.2.1]; exact hpm
    have cqp:=hwq3.cell (o:=0) rfl hql;rw [Nat.zero_add] at cqp;clear hql hbx3 hwq3 hk3 hsm3 hnw3 hng3 hnl3 hnd3 hnU3 hz3 hx3 hne3 HB2 HWQ2 HK2 HSM2 HNW HNN c2b2 c4b2 HZ1 HVX;gi_wp2_with fail
    exact long_end HLD.out HP.out hpm hj HNV.out (by rw [HNN3.out.1]; exact HN2.out.symm) HNN3.out.2 (by omega) (by rw [HPS.out,HZ3.out]; have:=HQ1.out; omega) (by rw [HZ3.out]; exact HREM.out) HB3.out HNW3.out HWQ3.out hw3s hgq4 hW3' HK3.out HSM3.out
  case done =>
   rintro D W hD ⟨hbx,hW5,zs,qs,hld,hwz,hwq⟩ hK;rw [Nat.sub_self] at hld;obtain ⟨hqU,hzU⟩:=hld.done;have c3b:W.cell? ⟨w.heap.size + 1 + 1,0,none⟩ = some (.slice (some ⟨gr,0,none⟩) N N):=hbx.r.cell 0;have HLD:=qz hld;have HWZ:=qz hwz;have HWQ:=qz hwq;have HBX:=qz hbx;have HQU:=qz hqU;have HZU:=qz hzU;have HKD:=qz hK
   have hzl:zs.length = N:=by have:=hld.1; have:=HMN.out; omega
   have HZL:=qz hzl;clear hld hwz hwq hbx hqU hzU hK hzl;have hNb:N<=200000:=by have:=HN.out; omega
   go_wp2_with fail;refine (shiftDown_any gr 0 [] [] zs N N s W HZL.out rfl HWZ.out HLD.out.2.1 (by omega) (Nat.le_refl _) hs31).mono ?_;rintro e W6 ⟨zs6,rfl,hl6,hd6,hU6,hw6,hg6⟩;have hbx6:=HBX.out.wrote hg6 (fun r e => by cases e; exact Nat.le_refl _);have hwq6:=HWQ.out.other hg6 (by omega)
   have hK6:W6.heap[D]? = some (.deferred (some [])):=(hg6.block D (Array.getElem?_eq_some_iff.1 HKD.out).1 (fun e => by injection e; omega)).trans HKD.out;have hraq:=hwq6.reads (o:=0) rfl;have hraz:=hw6.reads (o:=0) rfl;have hql:qs.length = m:=HLD.out.2.2.1;have hqd:=HLD.out.2.2.2.1
   have sh1:=shorten_cl (some ⟨gq,0,none⟩) qs m m W6.drew hql hraq hqd (by omega) (Nat.le_refl _);have sh2:=shorten_cl (some ⟨gr,0,none⟩) zs6 N N W6.drew hl6 hraz hd6 (by omega) (Nat.le_refl _);have c2b6:=hbx6.q.cell 0;have f2b6:=hbx6.q.frozen 0;have c3b6:W6.cell? ⟨w.heap.size + 1 + 1,0,none⟩ = some (.slice (some ⟨gr,0,none⟩) N N):=hbx6.r.cell 0
   have f3b6:W6.frozen? ⟨w.heap.size + 1 + 1,0,none⟩ = false:=hbx6.r.frozen 0;obtain ⟨a,ha⟩:=exq (cl qs);obtain ⟨b,hb⟩:=exq (cl zs6);rw [ha] at sh1;rw [hb] at sh2;have HCA:=qz ha;have HCB:=qz hb;have HB6:=qz hbx6;have HWQ6:=qz hwq6;have HWZ6:=qz hw6;have HK6:=qz hK6;have H6:=qz (And.intro hl6 (And.intro hd6 hU6))
   clear ha hb hbx6 hwq6 hw6 hK6 hl6 hd6 hU6 hraq hraz hql hqd hg6 c3b HBX HWZ HWQ HKD;go_upto_region 14 with (fail)
   go_cut [] from 66 to 70 (fun wx => LEnd w gr gq N m D a b zs6 qs wx)
   case first =>
    go_region_with (first
     | (go_at_call 61; (with_reducible refine sh1.mono ?_); rintro e w' ⟨rfl,rfl⟩)
     | (go_at_call 61; (with_reducible refine sh2.mono ?_); rintro e w' ⟨rfl,rfl⟩))
    all_goals
     go_wp2_with fail;go_meet
     first
      | exact lend_1 HB6.out HWZ6.out HWQ6.out HK6.out hw3s
      | exact lend_2 HB6.out HWZ6.out HWQ6.out HK6.out hw3s
   case rest =>
    have hle:=hcut;have d1:=hle.q.cell 0;have d2:wc.cell? ⟨w.heap.size + 1 + 1,0,none⟩ = some (.slice (some ⟨gr,0,none⟩) b N):=hle.r.cell 0;have HLE:=qz hle;clear hle hcut;go_wp2_with fail;have hgD:wc.grownBy (wc.putObj D (.deferred none)) (some D):=grownBy_putObj' wc D _
    have hnc:∀ r,some D = some r->∃ o:Obj,wc.heap[r]? = some o/\o.isCells = false:=fun r e => by cases e; exact ⟨_,HLE.out.mark,rfl⟩
    have hvU:0 < 2 ^ s:=Nat.pow_pos (by omega);have hqq:U qs = U xs / U ys:=by rw [HQU.out,<- HA.out,<- HV.out,Nat.mul_div_mul_right _ _ hvU]
    have hrr:U zs6 = U xs % U ys:=by rw [H6.out.2.2,HZU.out,<- HA.out,<- HV.out,Nat.mul_mod_mul_right,Nat.mul_div_cancel _ hvU]
    exact leave_mark (v:=.tuple #[.slice (some ⟨gq,0,none⟩) a m,.slice (some ⟨gr,0,none⟩) b N]) HLE.out.mark
     (by simp [results,Tryz.results129,go_sem,mark_cell HLE.out.mark d1,mark_cell HLE.out.mark d2])
     ⟨_,_,rfl,win_nv (HLE.out.wq.kept hgD hnc) HLD.out.2.2.1 HLD.out.2.2.2.1 (by omega) HCA.out hqq,win_nv (HLE.out.wr.kept hgD hnc) H6.out.1 H6.out.2.1 (by omega) HCB.out hrr,
      mark_below HLE.out.below HLE.out.mark (by omega)⟩
  case stop =>
   rintro D c k W _ _ h _;exact h.elim
end
section
open Go.RowKit Go.Shelf
set_option maxRecDepth 100000
theorem nv_zero_nil (w:World) (B:Nat):Nv w B (.slice none 0 0) 0:=⟨none,[],0,0,rfl,rfl,Nat.le_refl _,Ra.nil _ _ _,fun h => absurd rfl h,Cn.nil,rfl⟩
theorem natDiv_zero (A1 A2:Option Addr) (xs ys:List Nat) (n1 c1 n2 c2:Nat) (w:World) (hl1:xs.length = n1) (hl2:ys.length = n2) (hr1:Ra w w.heap.size A1 xs) (hr2:Ra w w.heap.size A2 ys)
  (hd1:Dg xs) (hd2:Dg ys) (hn1:n1<=100000) (hn2:n2<=100000) (hc1:n1<=c1) (hc2:n2<=c2) (hz:U ys = 0) :
  Calls Tryz.prog 113 #[.slice A1 n1 c1,.slice A2 n2 c2] w fun e w' => e = .returned (.tuple #[.slice none 0 0,.slice none 0 0,.bool false])/\w = w':=by
 have hcl:cl ys = 0:=by
  have h1:=cl_can hd2;have h2:=cl_U ys;have:=U_inj h1 Cn.nil (h2.trans hz);have h4:=cl_le ys;have h3:(ys.take (cl ys)).length = 0:=by rw [this]; rfl
  rwa [List.length_take,Nat.min_eq_left h4] at h3
 have sh1:=shorten_cl A1 xs n1 c1 w hl1 hr1 hd1 (by omega) hc1;have sh2:=shorten_cl A2 ys n2 c2 w hl2 hr2 hd2 (by omega) hc2;rw [hcl] at sh2;obtain ⟨m1,hm1⟩:=exq (cl xs);rw [hm1] at sh1;clear hl1 hl2 hz hcl hm1;go_enter Tryz.func113,Tryz.ntmps113;go_wp2_with fail;refine sh1.mono ?_;rintro e w' ⟨rfl,rfl⟩;go_wp2_with fail;refine sh2.mono ?_
 rintro e w' ⟨rfl,rfl⟩;go_wp2_with fail
 go_ret3
 exact ⟨rfl,rfl⟩
def DivRet (w:World) (a b:Nat) (e:Ending) (w':World):Prop:=∃ v1 v2,e = .returned (.tuple #[v1,v2,.bool true])/\Nv w' w.heap.size v1 (a / b)/\Nv w' w.heap.size v2 (a % b)/\Below w.heap.size w w'
theorem natDiv_cut (A1 A2:Option Addr) (xs ys:List Nat) (m1 c1 m2 c2:Nat) (x1 x2 k1 k2:Nat) (w:World) (hl1:xs.length = m1) (hl2:ys.length = m2) (hr1:Ra w w.heap.size A1 xs) (hr2:Ra w w.heap.size A2 ys)
  (hd1:Cn xs) (hd2:Cn ys) (hn1:m1<=100000) (hn2:m2<=100000) (hc1:m1<=c1) (hc2:m2<=c2) (hpos:0 < U ys)
  (sh1:Calls Tryz.prog 61 #[.slice A1 x1 c1] w fun e w' => e = .returned (.slice A1 m1 c1)/\w = w')
  (sh2:Calls Tryz.prog 61 #[.slice A2 x2 c2] w fun e w' => e = .returned (.slice A2 m2 c2)/\w = w') :
  Calls Tryz.prog 113 #[.slice A1 x1 c1,.slice A2 x2 c2] w (DivRet w (U xs) (U ys)):=by
 have HL1:=qz hl1;have HL2:=qz hl2;have HD1:=qz hd1;have HD2:=qz hd2;have HP:=qz hpos
 have hm2:0 < m2:=by
  rcases Nat.eq_zero_or_pos m2 with h | h
  ·
   rw [h] at hl2;rw [List.eq_nil_of_length_eq_zero hl2] at hpos;simp [U] at hpos
  · exact h
 clear hl1 hl2 hd1 hd2 hpos;rcases (show m1 < m2\/(m2 = 1/\¬ m1 < m2)\/(¬ m2 = 1/\2<=m2/\¬ m1 < m2) by omega) with hlt | ⟨hone,hge⟩ | ⟨hone,htwo,hge⟩
 ·
  -- a short one
  have hm2z:¬ m2 = 0:=by omega
  have hUlt:U xs < U ys:=cmp_len HD1.out HD2.out (by rw [HL1.out,HL2.out]; exact hlt);have HQ:Hid (U xs / U ys = 0):=qz (Nat.div_eq_of_lt hUlt);have HR:Hid (U xs % U ys = U xs):=qz (Nat.mod_eq_of_lt hUlt);clear hUlt;go_enter Tryz.func113,Tryz.ntmps113;go_wp2_with fail;refine sh1.mono ?_;rintro e w' ⟨rfl,rfl⟩;go_wp2_with fail;refine sh2.mono ?_
  rintro e w' ⟨rfl,rfl⟩;go_wp2_with fail;refine (clone_any A1 xs m1 c1 w HL1.out hr1 (by omega)).mono ?_;rintro e w1 ⟨v,rfl,how,hb⟩;obtain ⟨A,c,rfl,hc⟩:=how.form;have hnv:=how.nv hc HD1.out;have HNV:=qz hnv;clear hnv how;go_wp2_with fail
  go_ret3
  exact ⟨_,_,rfl,by rw [HQ.out]; exact nv_zero_nil _ _,by rw [HR.out]; exact HNV.out,hb⟩
 ·
  -- by one digit
  subst hone;obtain ⟨d,hd⟩:=exq (nth ys 0)
  have hyd:U ys = d:=by
   have h:=U_take_succ ys 0;rw [U_take_all ys _ (by rw [HL2.out]; omega)] at h;rw [h,hd]; simp [U]
  have hdb:d < 4294967296:=by rw [<- hd]; exact HD2.out.1.nth 0
  have hd0:0 < d:=by rw [<- hyd]; exact HP.out
  obtain ⟨b2,o2,hA2,_,cy⟩:=hr2.at_ (k:=0) (by rw [HL2.out]; omega);subst hA2;rw [hd,Nat.add_zero] at cy;have HYD:=qz hyd;clear hd hyd;go_enter Tryz.func113,Tryz.ntmps113;go_wp2_with fail;refine sh1.mono ?_;rintro e w' ⟨rfl,rfl⟩;go_wp2_with fail;refine sh2.mono ?_;rintro e w' ⟨rfl,rfl⟩;go_wp2_with fail
  refine (clone_any A1 xs m1 c1 w HL1.out hr1 (by omega)).mono ?_;rintro e w1 ⟨v,rfl,how,hb⟩;rw [HL1.out] at how;obtain ⟨A,c,rfl,hc⟩:=how.form;have hrow:=how.row;rcases hrow with ⟨_,h,_⟩ | ⟨g,rfl⟩
  · omega
  obtain ⟨R,hw,hBg,hcap,hmax⟩:=how.win;have hgl:=hw.lt;have HW:=qz hw;have HCAP:=qz hcap;have cy1:w1.cell? ⟨b2,o2,none⟩ = some (.int .u32 (d:Int)):=(hb.cell (World.block_lt_of_cell? w _ cy)).trans cy;clear how hw hcap cy;go_wp2_with fail;refine (divByDigit_any g 0 [] R xs m1 c d w1 HL1.out rfl HW.out HD1.out.1 (by omega) hc hd0 hdb).mono ?_
  rintro e w2 ⟨zs,rfl,hzl,hzd,hzU,hwin,hgr⟩;have hb2:Below w.heap.size w w2:=hb.trans (wrote_below hgr hBg hgl);have how2:Ow w2 w.heap.size (.slice (some ⟨g,0,none⟩) m1 c) m1 zs:=Ow.of_win hwin hzl hBg HCAP.out hmax;have hmd:U xs % d < 4294967296:=Nat.lt_trans (Nat.mod_lt _ hd0) hdb;obtain ⟨r,hr⟩:=exq (U xs % d);rw [hr] at hmd ⊢;have HOW2:=qz how2
  have HZ:=qz (And.intro hzl (And.intro hzd hzU));have HR:=qz hr;have wr:IntKind.u64.wrap (r:Int) = (r:Int):=IntWalk.u64_in _ (by omega);clear how2 hzl hzd hzU hwin hgr cy1 HW hr;go_wp2_with fail;refine (shorten_cl _ zs m1 c w2 HZ.out.1 HOW2.out.reads.1 HZ.out.2.1 (by omega) hc).mono ?_;rintro e w5 ⟨rfl,rfl⟩;have hclz:=cl_le zs
  have how5:=HOW2.out.take (m:=cl zs) (by have:=HZ.out.1; omega)
  have hnv5:Nv w2 w.heap.size (.slice (some ⟨g,0,none⟩) (cl zs) c) (U xs / d):=by
   have:=how5.nv (by have:=HZ.out.1; omega) (cl_can HZ.out.2.1)
   rwa [cl_U,HZ.out.2.2] at this
  obtain ⟨j,hj⟩:=exq (cl zs);rw [hj] at hnv5 ⊢;have HNV5:=qz hnv5;clear how5 hnv5 hclz hj;go_wp2_with fail;refine (natOf_any r w2 (by omega)).mono ?_;rintro e w6 ⟨v6,rfl,hnv6,hb6⟩;obtain ⟨A6,n6,c6,rfl⟩:=hnv6.shape;have HNV6:=qz (hnv6.more (show w.heap.size<=w2.heap.size from hb2.size));clear hnv6;go_wp2_with fail
  go_ret3
  exact ⟨_,_,rfl,by rw [HYD.out]; exact HNV5.out.below hb6,by rw [HYD.out,HR.out]; exact HNV6.out,hb2.trans (hb6.mono hb2.size)⟩
 ·
  -- by more
  have hm2z:¬ m2 = 0:=by omega
  go_enter Tryz.func113,Tryz.ntmps113;go_wp2_with fail;refine sh1.mono ?_;rintro e w' ⟨rfl,rfl⟩;go_wp2_with fail;refine sh2.mono ?_;rintro e w' ⟨rfl,rfl⟩;go_wp2_with fail;refine (divLong_any A1 A2 xs ys (m2 - 2) m1 c1 m2 c2 w (by omega) HL1.out HL2.out hr1 hr2 HD1.out.1 HD2.out (by omega) hn1 hc1 hc2).mono ?_;rintro e w1 ⟨v1,v2,rfl,hv1,hv2,hb⟩
  obtain ⟨B1,j1,e1,rfl⟩:=hv1.shape;obtain ⟨B2,j2,e2,rfl⟩:=hv2.shape;have HV1:=qz hv1;have HV2:=qz hv2;clear hv1 hv2;go_wp2_with fail
  go_ret3
  exact ⟨_,_,rfl,HV1.out,HV2.out,hb⟩
theorem natDiv_any (A1 A2:Option Addr) (xs ys:List Nat) (n1 c1 n2 c2:Nat) (w:World) (hl1:xs.length = n1) (hl2:ys.length = n2) (hr1:Ra w w.heap.size A1 xs) (hr2:Ra w w.heap.size A2 ys)
  (hd1:Dg xs) (hd2:Dg ys) (hn1:n1<=100000) (hn2:n2<=100000) (hc1:n1<=c1) (hc2:n2<=c2) (hpos:0 < U ys) :
  Calls Tryz.prog 113 #[.slice A1 n1 c1,.slice A2 n2 c2] w (DivRet w (U xs) (U ys)):=by
 have h1:=cl_le xs;have h2:=cl_le ys
 have:=natDiv_cut A1 A2 (xs.take (cl xs)) (ys.take (cl ys)) (cl xs) c1 (cl ys) c2 n1 n2 0 0 w (by simp; omega) (by simp; omega) (hr1.take _) (hr2.take _) (cl_can hd1) (cl_can hd2) (by omega) (by omega) (by omega) (by omega)
  (by rw [cl_U]; exact hpos) (shorten_cl A1 xs n1 c1 w hl1 hr1 hd1 (by omega) hc1) (shorten_cl A2 ys n2 c2 w hl2 hr2 hd2 (by omega) hc2)
 rwa [cl_U,cl_U] at this
end
section
open Go.RowKit
set_option maxRecDepth 100000
theorem U_word {xs:List Nat} (h:Dg xs) {n:Nat} (hl:xs.length = n) (hn:n<=2):U xs < 18446744073709551616:=by
 have h1:=U_lt h;have h2:(4294967296:Nat) ^ xs.length<=4294967296 ^ 2:=Nat.pow_le_pow_right (by omega) (by omega);have h3:(4294967296:Nat) ^ 2 = 18446744073709551616:=by decide
 omega
theorem gcdOfWords_any (A1 A2:Option Addr) (xs ys:List Nat) (n1 c1 n2 c2:Nat) (w:World) (hl1:xs.length = n1) (hl2:ys.length = n2) (hr1:Ra w w.heap.size A1 xs) (hr2:Ra w w.heap.size A2 ys)
  (hd1:Dg xs) (hd2:Dg ys) (hn1:n1<=2) (hn2:n2<=2) (hc1:n1<=c1) (hc2:n2<=c2) :
  Calls Tryz.prog 112 #[.slice A1 n1 c1,.slice A2 n2 c2] w fun e w' => e = .returned (.int .u64 ((Nat.gcd (U xs) (U ys):Nat):Int))/\Below w.heap.size w w':=by
 have hx:=U_word hd1 hl1 hn1;have hy:=U_word hd2 hl2 hn2;have c1':=natWord_any A1 xs n1 c1 w hl1 hr1 hd1 (by omega) hc1;have c2':=fun wz (hz:Below w.heap.size w wz) => natWord_any A2 ys n2 c2 wz hl2 ((hr2.below hz (Nat.le_refl _)).more hz.size) hd2 (by omega) hc2
 rw [fw_in hx] at c1';simp only [fw_in hy] at c2';obtain ⟨a,ha⟩:=exq (U xs);obtain ⟨b,hb⟩:=exq (U ys);rw [ha] at hx c1' ⊢;rw [hb] at hy ⊢;simp only [hb] at c2';obtain ⟨G,hG⟩:=exq (Nat.gcd a b);rw [hG];have HG:=qz hG;clear hr1 hr2 hd1 hd2 hl1 hl2 ha hb hG;go_enter Tryz.func112,Tryz.ntmps112;go_wp2_with fail;refine c1'.mono ?_;rintro e w1 ⟨rfl,hb1⟩
 go_wp2_with fail;refine (c2' w1 hb1).mono ?_;rintro e w2 ⟨rfl,hb2⟩;have hB2:=hb1.trans (hb2.mono hb1.size);clear c1' c2' hb1 hb2;go_wp2_with fail;go_loopw [5,7] (fun cv rv wr => ∃ x y:Nat,cv = .int .u64 (x:Int)/\rv = .int .u64 (y:Int)/\x < 18446744073709551616/\y < 18446744073709551616/\Nat.gcd x y = G/\Below w.heap.size w wr) (fun _ rv _ => (intOf rv).toNat)
 case atStart => exact ⟨a,b,rfl,rfl,hx,hy,HG.out,hB2⟩
 case round =>
  obtain ⟨x,y,rfl,rfl,hx1,hy1,hg,hB⟩:=hrel;have HG1:=qz hg;clear hg;by_cases h0:y = 0
  ·
   subst h0;have HX:Hid (x = G):=qz (by have:=HG1.out; rwa [Nat.gcd_zero_right] at this);go_wp2_with fail;go_ret;exact ⟨by rw [<- HX.out]; rfl,hB⟩
  ·
   have hpos:0 < y:=by omega
   obtain ⟨r,hr⟩:=exq (x % y);have hrl:r < y:=by rw [<- hr]; exact Nat.mod_lt _ hpos
   have em:(x:Int).tmod (y:Int) = (r:Int):=by rw [Int.tmod_eq_emod_of_nonneg (by omega),<- hr]; rfl
   have y0:¬ (y:Int) = 0:=by omega
   have yb:((y:Int) == 0) = false:=by simp; omega
   have yn:((y:Int) != 0) = true:=by simp; omega
   have wr1:IntKind.u64.wrap (r:Int) = (r:Int):=IntWalk.u64_in _ (by omega);have HG2:Hid (Nat.gcd y r = G):=qz (by rw [<- hr,<- HG1.out,Nat.gcd_comm x y,Nat.gcd_rec y x,Nat.gcd_comm]);clear hr;go_wp2_with fail
   go_quiet (fail)
   go_wp2_with fail;go_roundw
   case rel => exact ⟨y,r,rfl,rfl,hy1,by omega,HG2.out,hB.trans ((below_drewN _).mono hB.size)⟩
   case measure => simp [intOf]; omega
end
section
open Go.RowKit Go.Shelf
set_option maxRecDepth 100000
def slU (W:World):Value->Nat
 | .slice (some a) n _ => U ((List.range n).map fun k => match W.cell? ⟨a.block,a.off + k,none⟩ with | some (.int _ x) => x.toNat | _ => 0)
 | _ => 0
theorem slU_eq {W:World} {B n c:Nat} {A:Option Addr} {xs:List Nat} (h:Ra W B A xs) (hl:xs.length = n):slU W (.slice A n c) = U xs:=by
 rcases xs with _ | ⟨d,r⟩
 ·
  subst hl;cases A <;> rfl
 ·
  obtain ⟨b,o,rfl,_,hc⟩:=h (by simp);unfold slU;refine congrArg U ?_;apply List.ext_getElem
  · simp [hl]
  ·
   intro i h1 h2;simp only [List.getElem_map,List.getElem_range,hc i h2,nth_in h2];rfl
def Nr (W:World) (v:Value) (x M:Nat):Prop:=∃ A xs n c,v = .slice A n c/\xs.length = n/\n<=c/\Ra W W.heap.size A xs/\Dg xs/\U xs = x/\n<=M
theorem Nr.below {W W':World} {v:Value} {x M:Nat} (h:Nr W v x M) (hb:Below W.heap.size W W'):Nr W' v x M:=by
 obtain ⟨A,xs,n,c,h1,h2,h3,h4,h5⟩:=h;exact ⟨A,xs,n,c,h1,h2,h3,(h4.below hb (Nat.le_refl _)).more hb.size,h5⟩
theorem Nr.shape {W:World} {v:Value} {x M:Nat} (h:Nr W v x M):∃ A n c,v = .slice A n c:=by
 obtain ⟨A,xs,n,c,h1,_⟩:=h;exact ⟨A,n,c,h1⟩
theorem Nr.more {W:World} {v:Value} {x M M':Nat} (h:Nr W v x M) (hM:M<=M'):Nr W v x M':=by
 obtain ⟨A,xs,n,c,h1,h2,h3,h4,h5,h6,h7⟩:=h;exact ⟨A,xs,n,c,h1,h2,h3,h4,h5,h6,Nat.le_trans h7 hM⟩
theorem Nv.nr {W:World} {L x M:Nat} {v:Value} (h:Nv W L v x) (hx:x < 4294967296 ^ M):Nr W v x M:=by
 obtain ⟨A,xs,n,c,h1,h2,h3,h4,_,h6,h7⟩:=h;have:=h6.len (k:=M) (by omega);exact ⟨A,xs,n,c,h1,h2,h3,h4,h6.1,h7,by omega⟩
theorem Nr.lt {W:World} {v:Value} {x M:Nat} (h:Nr W v x M):x < 4294967296 ^ M:=by
 obtain ⟨A,xs,n,c,h1,h2,h3,h4,h5,h6,h7⟩:=h;have:=U_lt h5;rw [h2,h6] at this;exact Nat.lt_of_lt_of_le this (Nat.pow_le_pow_right (by omega) h7)
theorem div_r {v1 v2:Value} {a b M1 M2:Nat} (w:World) (h1:Nr w v1 a M1) (h2:Nr w v2 b M2) (hM1:M1<=100000) (hM2:M2<=100000) (hb:0 < b):Calls Tryz.prog 113 #[v1,v2] w (DivRet w a b):=by
 obtain ⟨A1,xs,n1,c1,rfl,hl1,hc1,hr1,hd1,rfl,hn1⟩:=h1;obtain ⟨A2,ys,n2,c2,rfl,hl2,hc2,hr2,hd2,rfl,hn2⟩:=h2;exact natDiv_any A1 A2 xs ys n1 c1 n2 c2 w hl1 hl2 hr1 hr2 hd1 hd2 (by omega) (by omega) hc1 hc2 hb
theorem div_z {v1 v2:Value} {a M1 M2:Nat} (w:World) (h1:Nr w v1 a M1) (h2:Nr w v2 0 M2) (hM1:M1<=100000) (hM2:M2<=100000) :
  Calls Tryz.prog 113 #[v1,v2] w fun e w' => e = .returned (.tuple #[.slice none 0 0,.slice none 0 0,.bool false])/\w = w':=by
 obtain ⟨A1,xs,n1,c1,rfl,hl1,hc1,hr1,hd1,rfl,hn1⟩:=h1;obtain ⟨A2,ys,n2,c2,rfl,hl2,hc2,hr2,hd2,hz,hn2⟩:=h2;exact natDiv_zero A1 A2 xs ys n1 c1 n2 c2 w hl1 hl2 hr1 hr2 hd1 hd2 (by omega) (by omega) hc1 hc2 hz
def Nc (W:World) (v:Value) (x M:Nat):Prop:=∃ A xs n c,v = .slice A n c/\xs.length = n/\n<=c/\Ra W W.heap.size A xs/\Cn xs/\U xs = x/\n<=M
theorem Nc.nr {W:World} {v:Value} {x M:Nat} (h:Nc W v x M):Nr W v x M:=by
 obtain ⟨A,xs,n,c,h1,h2,h3,h4,h5,h6,h7⟩:=h;exact ⟨A,xs,n,c,h1,h2,h3,h4,h5.1,h6,h7⟩
theorem Nc.below {W W':World} {v:Value} {x M:Nat} (h:Nc W v x M) (hb:Below W.heap.size W W'):Nc W' v x M:=by
 obtain ⟨A,xs,n,c,h1,h2,h3,h4,h5⟩:=h;exact ⟨A,xs,n,c,h1,h2,h3,(h4.below hb (Nat.le_refl _)).more hb.size,h5⟩
theorem Nv.nc {W:World} {L x M:Nat} {v:Value} (h:Nv W L v x) (hx:x < 4294967296 ^ M):Nc W v x M:=by
 obtain ⟨A,xs,n,c,h1,h2,h3,h4,_,h6,h7⟩:=h;have:=h6.len (k:=M) (by omega);exact ⟨A,xs,n,c,h1,h2,h3,h4,h6,h7,by omega⟩
theorem Nc.zero {W:World} {A:Option Addr} {n c x M:Nat} (h:Nc W (.slice A n c) x M):(n = 0/\x = 0)\/(0 < n/\0 < x):=by
 obtain ⟨A',xs,n',c',hv,hl,_,_,hcan,hU,_⟩:=h;injection hv with _ e2 _
 subst e2;rcases xs with _ | ⟨d,r⟩
 · exact .inl ⟨by simpa using hl.symm,by rw [<- hU]; rfl⟩
 ·
  refine .inr ⟨by rw [<- hl]; simp,?_⟩;have:=U_ge hcan (by simp);have h2:0 < 4294967296 ^ ((d :: r).length - 1):=Nat.pow_pos (by omega);omega
theorem gcd_cut {M:Nat} (A1 A2:Option Addr) (m1 c1 m2 c2:Nat) (x1 x2 a b:Nat) (w:World) (h1:Nc w (.slice A1 m1 c1) a M) (h2:Nc w (.slice A2 m2 c2) b M) (hM:M<=100000)
  (sh1:Calls Tryz.prog 61 #[.slice A1 x1 c1] w fun e w' => e = .returned (.slice A1 m1 c1)/\w = w')
  (sh2:Calls Tryz.prog 61 #[.slice A2 x2 c2] w fun e w' => e = .returned (.slice A2 m2 c2)/\w = w') :
  Calls Tryz.prog 95 #[.slice A1 x1 c1,.slice A2 x2 c2] w (RetNv w (Nat.gcd a b)):=by
 obtain ⟨G,hG⟩:=exq (Nat.gcd a b);rw [hG];have HG:=qz hG;have HN1:=qz h1;have HN2:=qz h2;clear hG h1 h2;go_enter Tryz.func95,Tryz.ntmps95;go_wp2_with fail;refine sh1.mono ?_;rintro e w' ⟨rfl,rfl⟩;go_wp2_with fail;refine sh2.mono ?_;rintro e w' ⟨rfl,rfl⟩;clear sh1 sh2;go_wp2_with fail
 go_loopw [0,1] (fun av bv wr => ∃ (x y:Nat) (A:Option Addr) (n c:Nat) (A':Option Addr) (n' c':Nat),av = .slice A n c/\bv = .slice A' n' c'/\Nc wr (.slice A n c) x M/\Nc wr (.slice A' n' c') y M/\Nat.gcd x y = G/\Below w.heap.size w wr) (fun _ bv wr => slU wr bv)
 case atStart => exact ⟨a,b,A1,m1,c1,A2,m2,c2,rfl,rfl,HN1.out,HN2.out,HG.out,Below.refl _ _⟩
 case round =>
  clear HN1 HN2 HG;obtain ⟨x,y,A,n,c,A',n',c',rfl,rfl,hn1,hn2,hg,hB⟩:=hrel;have hz:=hn2.zero;have H1:=qz hn1;have H2:=qz hn2;have HG:=qz hg;clear hn1 hn2 hg;rcases hz with ⟨rfl,rfl⟩ | ⟨hn0,hy0⟩
  ·
   have hxG:x = G:=by have:=HG.out; rwa [Nat.gcd_zero_right] at this
   subst hxG;obtain ⟨A0,xs,n0,c0,hv,hl,hc,hr,hcan,hU,hnM⟩:=H1.out;injection hv with e1 e2 e3
   subst e1 e2 e3;have HC:=qz hcan;have HU:=qz hU;have HL:=qz hl;clear hcan hU hl;go_wp2_with fail;refine (clone_any A xs n c wr HL.out hr (by omega)).mono ?_;rintro e w1 ⟨v,rfl,how,hb⟩;rw [HL.out] at how;obtain ⟨A3,c3,rfl,hc3⟩:=how.form;have hnv:=(how.more hB.size).nv hc3 HC.out;rw [HU.out] at hnv;have HNV:=qz hnv;clear hnv how;go_wp2_with fail;go_ret
   exact ⟨_,rfl,HNV.out,hB.trans (hb.mono hB.size)⟩
  ·
   by_cases h2w:n<=2/\n'<=2
   ·
    obtain ⟨hw1,hw2⟩:=h2w;obtain ⟨A0,xs,n0,c0,hv,hl,hc,hr,hcan,hU,hnM⟩:=H1.out;injection hv with e1 e2 e3
    subst e1 e2 e3;obtain ⟨A0',ys,n0',c0',hv',hl',hc',hr',hcan',hU',hnM'⟩:=H2.out;injection hv' with e1 e2 e3
    subst e1 e2 e3;have hgw:=gcdOfWords_any A A' xs ys n c n' c' wr hl hl' hr hr' hcan.1 hcan'.1 hw1 hw2 hc hc';rw [hU,hU',HG.out] at hgw
    have hGb:G < 18446744073709551616:=by
     have h1:G<=y:=by rw [<- HG.out]; exact Nat.le_of_dvd hy0 (Nat.gcd_dvd_right x y)
     have h2:=U_word hcan'.1 hl' hw2;omega
    have HGB:=qz hGb;clear hl hl' hcan hcan' hU hU' hr hr' H1 H2 hGb;go_wp2_with fail;refine hgw.mono ?_;rintro e w1 ⟨rfl,hb1⟩;go_wp2_with fail;refine (natOf_any G w1 HGB.out).mono ?_;rintro e w2 ⟨v,rfl,hnv,hb2⟩;obtain ⟨A3,n3,c3,rfl⟩:=hnv.shape;have hs1:=hB.size;have hs2:=hb1.size;have HNV:=qz (hnv.more (show w.heap.size<=w1.heap.size by omega));clear hnv
    go_wp2_with fail;go_ret;exact ⟨_,rfl,HNV.out,(hB.trans (hb1.mono hs1)).trans (hb2.mono (by omega))⟩
   ·
    have hmeas:slU wr (.slice A' n' c') = y:=by
     obtain ⟨A0',ys,n0',c0',hv',hl',hc',hr',hcan',hU',hnM'⟩:=H2.out;injection hv' with e1 e2 e3
     subst e1 e2 e3;rw [slU_eq hr' hl',hU']
    have HME:=qz hmeas;clear hmeas;rcases (show ¬ n<=2\/(n<=2/\¬ n'<=2) by omega) with hbig | ⟨hsm,hbig⟩
    all_goals
     go_wp2_with fail;refine (div_r wr H1.out.nr H2.out.nr hM hM hy0).mono ?_;rintro e w1 ⟨v1,v2,rfl,hv1,hv2,hb⟩;obtain ⟨B1,j1,e1,rfl⟩:=hv1.shape;obtain ⟨B2,j2,e2,rfl⟩:=hv2.shape;have hlt:x % y < 4294967296 ^ M:=Nat.lt_trans (Nat.mod_lt _ hy0) H2.out.nr.lt;have HV2:=qz (hv2.nc hlt);have H2':=qz (H2.out.below hb);clear hv1 hv2 hlt;go_wp2_with fail
     go_roundw
     case rel => exact ⟨y,x % y,A',n',c',B2,j2,e2,rfl,rfl,H2'.out,HV2.out,by rw [<- HG.out,Nat.gcd_comm x y,Nat.gcd_rec y x,Nat.gcd_comm],hB.trans (hb.mono hB.size)⟩
     case measure =>
      obtain ⟨A0',ys,n0',c0',hv',hl',hc',hr',hcan',hU',hnM'⟩:=HV2.out;injection hv' with e1 e2 e3
      subst e1 e2 e3;rw [slU_eq hr' hl',hU',HME.out];exact Nat.mod_lt _ hy0
theorem nc_cut {W:World} {A:Option Addr} {xs:List Nat} {n c M:Nat} (hl:xs.length = n) (hc:n<=c) (hr:Ra W W.heap.size A xs) (hd:Dg xs) (hM:n<=M):Nc W (.slice A (cl xs) c) (U xs) M:=by
 have:=cl_le xs;exact ⟨A,xs.take (cl xs),_,c,rfl,by simp; omega,by omega,hr.take _,cl_can hd,cl_U xs,by omega⟩
theorem gcd_r {v1 v2:Value} {a b M:Nat} (w:World) (h1:Nr w v1 a M) (h2:Nr w v2 b M) (hM:M<=100000):Calls Tryz.prog 95 #[v1,v2] w (RetNv w (Nat.gcd a b)):=by
 obtain ⟨A1,xs,n1,c1,rfl,hl1,hc1,hr1,hd1,rfl,hn1⟩:=h1;obtain ⟨A2,ys,n2,c2,rfl,hl2,hc2,hr2,hd2,rfl,hn2⟩:=h2;exact gcd_cut A1 A2 (cl xs) c1 (cl ys) c2 n1 n2 (U xs) (U ys) w (nc_cut hl1 hc1 hr1 hd1 hn1) (nc_cut hl2 hc2 hr2 hd2 hn2) hM (shorten_cl A1 xs n1 c1 w hl1 hr1 hd1 (by omega) hc1) (shorten_cl A2 ys n2 c2 w hl2 hr2 hd2 (by omega) hc2)
theorem mul2_r {v1 v2:Value} {a b M g:Nat} (W:World) (hc1:W.cell? ⟨g,0,none⟩ = some v1) (hc2:W.cell? ⟨g,1,none⟩ = some v2) (h1:Nr W v1 a M) (h2:Nr W v2 b M) (hM:M<=5000) :
  Calls Tryz.prog 42 #[.slice (some ⟨g,0,none⟩) 2 2] W (RetNv W (a * b)):=by
 obtain ⟨A1,xs,n1,c1,rfl,hl1,hcc1,hr1,hd1,rfl,hn1⟩:=h1;obtain ⟨A2,ys,n2,c2,rfl,hl2,hcc2,hr2,hd2,rfl,hn2⟩:=h2;have hg:=World.block_lt_of_cell? W _ hc1
 have hrow:Rows W W.heap.size (some ⟨g,0,none⟩) [xs,ys] M:=by
  intro k v hv
  match k,hv with
  | 0,hv =>
   obtain rfl:xs = v:=by simpa using hv
   exact ⟨g,0,A1,n1,c1,rfl,hg,hc1,hl1,hcc1,hr1,hd1,hn1⟩
  | 1,hv =>
   obtain rfl:ys = v:=by simpa using hv
   exact ⟨g,0,A2,n2,c2,rfl,hg,hc2,hl2,hcc2,hr2,hd2,hn2⟩
  | k + 2,hv => simp at hv
 have:=natMul_any (some ⟨g,0,none⟩) [xs,ys] 2 2 M W rfl hrow (by omega) hM;simpa [prodU] using this
theorem mul_new {v1 v2:Value} {a b M:Nat} (u:World) (h1:Nr u v1 a M) (h2:Nr u v2 b M) (hM:M<=5000) :
  Calls Tryz.prog 42 #[.slice (some ⟨u.heap.size,0,none⟩) 2 2] (u.alloc (.cells #[v1,v2] 44)) (RetNv (u.alloc (.cells #[v1,v2] 44)) (a * b)):=by
 have hb:Below u.heap.size u (u.alloc (.cells #[v1,v2] 44)):=(Below.refl _ _).alloc (Nat.le_refl _) _;exact mul2_r _ ((Blk.new u 44 #[v1,v2]).cell 0) ((Blk.new u 44 #[v1,v2]).cell 1) (h1.below hb) (h2.below hb) hM
end
section
open Go.RowKit
set_option maxRecDepth 100000
theorem bcell {W w1:World} (hb:Below W.heap.size W w1):(∀ b o,b < W.heap.size->w1.cell? ⟨b,o,none⟩ = W.cell? ⟨b,o,none⟩)/\(∀ b o,b < W.heap.size->w1.frozen? ⟨b,o,none⟩ = W.frozen? ⟨b,o,none⟩) :=
 ⟨fun b o h => hb.cell (p:=⟨b,o,none⟩) h,fun b o h => hb.frozen (p:=⟨b,o,none⟩) h⟩
theorem held2 {wb W W':World} {p q:Addr} {a b:Value} (hb:Below W.heap.size W W') (h:W.cell? p = some a/\W.cell? q = some b/\Below wb.heap.size wb W) :
  W'.cell? p = some a/\W'.cell? q = some b/\Below wb.heap.size wb W' :=
 ⟨(hb.cell (World.block_lt_of_cell? W _ h.1)).trans h.1,(hb.cell (World.block_lt_of_cell? W _ h.2.1)).trans h.2.1,h.2.2.trans (hb.mono h.2.2.size)⟩
theorem num_far2 {wb W:World} {L:Nat} {v:Value} {n:Nat} {a b:Prop} (hn:Num wb L v n) (hs:a/\b/\Below wb.heap.size wb W):Num W L v n:=hn.below hs.2.2
end
end Go.Proofs.YtkdmnlihpebbkaaGreat
