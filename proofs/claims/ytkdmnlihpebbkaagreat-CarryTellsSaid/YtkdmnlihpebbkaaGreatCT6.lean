import Derived.Test.YtkdmnlihpebbkaaGreatCT5
import Derived.Deep.LoopGhost
set_option linter.all false
set_option maxHeartbeats 8000000
namespace Go.Proofs.YtkdmnlihpebbkaaGreat
section
open Go.RowKit
set_option maxRecDepth 100000
def ob (A:Option Addr):Option Nat:=A.map (·.block)
theorem ob_eq (A:Option Addr) (n c:Nat):(Value.slice A n c).ownBlock = ob A:=by cases A <;> rfl
structure Gb13 (W:World) (L gb E I n:Nat) (A:List (Nat × Nat)) (h:Nat->Nat) (Af:Nat->Option Addr) (cf:Nat->Nat):Prop where
 box:Blk W gb 143 #[.slice (some ⟨E,0,none⟩) n n,.slice (some ⟨I,0,none⟩) n n]
 ends:∃ es:Array Value,Blk W E 26 es/\es.size = n/\∀ k,k < n->es[k]? = some (.slice (Af k) (outs A k).length (cf k))
 rows:∀ k,k < n->W.ownsRow L 3 1 (.slice (Af k) (outs A k).length (cf k)) (outs A k).length (ints (outs A k))
 apart:∀ j k,j < n->k < n->j≠k->∀ r,ob (Af j) = some r->ob (Af k)≠some r
 away:∀ k,k < n->ob (Af k)≠some I
 into:Ib13 W I n h
 lb:L<=gb
 le:L<=E
 li:L<=I
section
variable {W:World} {L gb E I n:Nat} {A:List (Nat × Nat)} {h:Nat->Nat} {Af:Nat->Option Addr} {cf:Nat->Nat}
theorem Gb13.step {W':World} (b:Gb13 W L gb E I n A h Af cf) (hb:Below W.heap.size W W'):Gb13 W' L gb E I n A h Af cf:=by
 obtain ⟨es,h1,h2,h3⟩:=b.ends;exact ⟨b.box.below hb b.box.lt,⟨es,h1.below hb h1.lt,h2,h3⟩,fun k hk => own7_keep (b.rows k hk) hb,b.apart,b.away,b.into.below hb b.into.lt,b.lb,b.le,b.li⟩
theorem Gb13.cell (b:Gb13 W L gb E I n A h Af cf) {k:Nat} (hk:k < n):W.cell? ⟨E,k,none⟩ = some (.slice (Af k) (outs A k).length (cf k))/\W.frozen? ⟨E,k,none⟩ = false:=by
 obtain ⟨es,h1,h2,h3⟩:=b.ends;exact ⟨by rw [h1.cell]; exact h3 k hk,h1.frozen k⟩
theorem Gb13.neE (b:Gb13 W L gb E I n A h Af cf):E≠gb:=by
 obtain ⟨es,h1,_⟩:=b.ends;exact blk_ne12 h1 b.box (by decide)
theorem Gb13.neI (b:Gb13 W L gb E I n A h Af cf):I≠gb:=by
 obtain ⟨cs,h1,_⟩:=b.into;exact blk_ne12 h1 b.box (by decide)
theorem Gb13.neIE (b:Gb13 W L gb E I n A h Af cf):I≠E:=by
 obtain ⟨es,h1,_⟩:=b.ends;obtain ⟨cs,h2,_⟩:=b.into;exact blk_ne12 h2 h1 (by decide)
theorem Gb13.rowE (b:Gb13 W L gb E I n A h Af cf) {k:Nat} (hk:k < n):ob (Af k)≠some E:=by
 obtain ⟨es,h1,_⟩:=b.ends;rw [<- ob_eq (Af k) (outs A k).length (cf k)];exact own7_ne (b.rows k hk) h1 (by decide)
theorem Gb13.rowB (b:Gb13 W L gb E I n A h Af cf) {k:Nat} (hk:k < n):ob (Af k)≠some gb:=by
 rw [<- ob_eq (Af k) (outs A k).length (cf k)];exact own7_ne (b.rows k hk) b.box (by decide)
theorem Gb13.count (b:Gb13 W L gb E I n A h Af cf) {t:Nat} (ht:t < n) (x:Nat):Gb13 (W.setCell ⟨I,t,none⟩ (.int .i64 (x:Int))) L gb E I n A (upd h t x) Af cf:=by
 obtain ⟨es,h1,h2,h3⟩:=b.ends;refine ⟨b.box.far (by exact fun e => b.neI e.symm) _,⟨es,h1.far (by exact fun e => b.neIE e.symm) _,h2,h3⟩,fun k hk => ownsRow_setCell_other (b.rows k hk) (by rw [ob_eq]; exact b.away k hk) _,b.apart,b.away,b.into.put ht x,b.lb,b.le,b.li⟩
theorem Gb13.add {W3:World} {f t c':Nat} {A':Option Addr} (b:Gb13 W L gb E I n A h Af cf) (hf:f < n) (hL:L<=W.heap.size)
  (hg:(W.alloc (.cells #[.int .i64 (t:Int)] 3)).grownBy W3 (Value.slice (Af f) (outs A f).length (cf f)).ownBlock)
  (hown:W3.ownsRow L 3 1 (.slice A' ((outs A f).length + 1) c') ((outs A f).length + 1) (ints (outs A f) ++ ints [t]))
  (hbl:(Value.slice A' ((outs A f).length + 1) c').ownBlock = (Value.slice (Af f) (outs A f).length (cf f)).ownBlock\/(Value.slice A' ((outs A f).length + 1) c').ownBlock = some (W.alloc (.cells #[.int .i64 (t:Int)] 3)).heap.size) :
  Gb13 (W3.setCell ⟨E,f,none⟩ (.slice A' ((outs A f).length + 1) c')) L gb E I n (A ++ [(f,t)]) h (upd Af f A') (upd cf f c')/\Below L W (W3.setCell ⟨E,f,none⟩ (.slice A' ((outs A f).length + 1) c')) /\
   W3.cell? ⟨E,f,none⟩ = some (.slice (Af f) (outs A f).length (cf f))/\W3.frozen? ⟨E,f,none⟩ = false:=by
 have b1:=b.step (b1' W (.cells #[.int .i64 (t:Int)] 3));obtain ⟨es,h1,h2,h3⟩:=b1.ends;rw [ob_eq] at hg hbl;rw [ob_eq] at hbl;have hE:=h1.grown hg (fun e => b1.rowE hf e.symm);have hbox:=b1.box.grown hg (fun e => b1.rowB hf e.symm);have hin:=b1.into.grown hg (fun e => b1.away f hf e.symm)
 have hlen:(outs (A ++ [(f,t)]) f).length = (outs A f).length + 1:=by rw [outs_next,if_pos rfl]; simp
 have hout:outs (A ++ [(f,t)]) f = outs A f ++ [t]:=by rw [outs_next,if_pos rfl]
 have hsame:∀ k,k≠f->outs (A ++ [(f,t)]) k = outs A k:=fun k hk => by rw [outs_next,if_neg (fun e => hk e.symm),List.append_nil]
 have hobE:ob A'≠some E:=by
  rw [<- ob_eq A' ((outs A f).length + 1) c'];exact own7_ne hown hE (by decide)
 have hnew:∀ r,ob A' = some r->ob (Af f) = some r\/W.heap.size < r:=fun r hr => by
  rcases hbl with h5 | h5
  · exact .inl (by rw [<- h5]; exact hr)
  ·
   right;rw [h5] at hr;injection hr with hr
   simp at hr;omega
 refine ⟨⟨hbox.far (by exact fun e => b.neE e.symm) _,⟨_,hE.set_ f _,by simpa using h2,fun k hk => ?_⟩,fun k hk => ?_,fun j k hj hk hjk r hr => ?_,fun k hk => ?_,hin.far (by exact b.neIE) _,b.lb,b.le,b.li⟩,
  (((b1' W _).mono hL).grown hg (by simp; omega) (fun r hr => by rw [<- ob_eq (Af f) (outs A f).length (cf f)] at hr; exact ((b1.rows f hf).lt r hr).1)).setCell b.le _,by rw [hE.cell]; exact h3 f hf,hE.frozen f⟩
 ·
  by_cases hkf:k = f
  ·
   subst hkf;rw [upd_at,upd_at,hlen,Array.getElem?_setIfInBounds_self_of_lt (by omega)]
  · rw [upd_far _ _ hkf,upd_far _ _ hkf,hsame k hkf,Array.getElem?_setIfInBounds_ne (by omega),h3 k hk]
 ·
  by_cases hkf:k = f
  ·
   subst hkf;rw [upd_at,upd_at,hlen,hout,ints_append];exact ownsRow_setCell_other hown (by rw [ob_eq]; exact hobE) _
  ·
   rw [upd_far _ _ hkf,upd_far _ _ hkf,hsame k hkf];refine ownsRow_setCell_other (own12_far (b1.rows k hk) hg (fun r hr => ?_)) (by rw [ob_eq]; exact b1.rowE hk) _;rw [ob_eq];exact b.apart f k hf hk (fun e => hkf e.symm) r hr
 ·
  by_cases hjf:j = f
  ·
   subst hjf;rw [upd_at] at hr;rw [upd_far _ _ (fun e => hjk e.symm)];rcases hnew r hr with h5 | h5
   · exact b.apart j k hj hk hjk r h5
   ·
    intro h6;rw [<- ob_eq (Af k) (outs A k).length (cf k)] at h6;have:=((b.rows k hk).lt r h6).2;omega
  ·
   rw [upd_far _ _ hjf] at hr;by_cases hkf:k = f
   ·
    subst hkf;rw [upd_at];intro h6;rcases hnew r h6 with h5 | h5
    · exact b.apart j k hj hk hjk r hr h5
    ·
     rw [<- ob_eq (Af j) (outs A j).length (cf j)] at hr;have:=((b.rows j hj).lt r hr).2;omega
   ·
    rw [upd_far _ _ hkf];exact b.apart j k hj hk hjk r hr
 ·
  by_cases hkf:k = f
  ·
   subst hkf;rw [upd_at];intro h6;rcases hnew I h6 with h5 | h5
   · exact b.away k hk h5
   ·
    have:=b.into.lt;omega
  ·
   rw [upd_far _ _ hkf];exact b.away k hk
theorem Gb13.gr (b:Gb13 W L gb E I n A h Af cf) (hh:∀ j,j < n->h j = rem13 A [] j) (hA:In13 A n) (hn:n<=4096) (hm:A.length<=1000000):Gr13 W W.heap.size E I n A:=by
 obtain ⟨es,h1,h2,h3⟩:=b.ends;exact ⟨⟨es,h1,h2,fun k hk => ⟨_,_,h3 k hk,Rd.of_own (b.rows k hk)⟩⟩,b.into.congr hh,h1.lt,b.into.lt,hA,hn,hm⟩
end
theorem info_ints13:(Tryz.prog.info? 26).map (fun i => (i.zero,i.size,i.bytes)) = some (some (.slice none 0 0),1,24):=by kernel_rfl
theorem make_ints13 (n:Nat) (hn:n<=1000000) (W:World):(Instr.makeSlice 26 (.int .i64 (n:Int)) (.int .i64 (n:Int))).run Tryz.prog W =
  .ok (.slice (some ⟨W.heap.size,0,none⟩) n n) (W.alloc (.cells (madeCells #[.int .i64 0] n) 3)):=by
 obtain ⟨i,hi,hzz⟩:=Option.map_eq_some_iff.1 info_int12;simp only [Prod.mk.injEq] at hzz;obtain ⟨hz,hs,hb⟩:=hzz;have hr:=run_make (P:=Tryz.prog) W 26 3 i _ Tryz.underlying26 hi hz .i64 .i64 n n (by omega) (Int.le_refl _) (by rw [hb]; omega) (by omega);simp only [Int.toNat_natCast,hs,Value.cells,Nat.mul_one] at hr;exact hr
theorem make_ends13 (n:Nat) (hn:n<=1000000) (W:World):(Instr.makeSlice 141 (.int .i64 (n:Int)) (.int .i64 (n:Int))).run Tryz.prog W =
  .ok (.slice (some ⟨W.heap.size,0,none⟩) n n) (W.alloc (.cells (madeCells #[.slice none 0 0] n) 26)):=by
 obtain ⟨i,hi,hzz⟩:=Option.map_eq_some_iff.1 info_ints13;simp only [Prod.mk.injEq] at hzz;obtain ⟨hz,hs,hb⟩:=hzz;have hr:=run_make (P:=Tryz.prog) W 141 26 i _ Tryz.underlying141 hi hz .i64 .i64 n n (by omega) (Int.le_refl _) (by rw [hb]; omega) (by omega);simp only [Int.toNat_natCast,hs,Value.cells,Nat.mul_one] at hr;exact hr
def Eq13 (W:World) (g:Nat) (t:TypeId) (n:Nat) (z:Value):Prop:=∃ cs:Array Value,Blk W g t cs/\cs.size = n/\∀ j,j < n->cs[j]? = some z
theorem Eq13.step {W W':World} {g n:Nat} {t:TypeId} {z:Value} (h:Eq13 W g t n z) (hb:Below W.heap.size W W'):Eq13 W' g t n z:=by
 obtain ⟨cs,h1,h2⟩:=h;exact ⟨cs,h1.below hb h1.lt,h2⟩
theorem Eq13.far {W:World} {g n:Nat} {t:TypeId} {z:Value} (h:Eq13 W g t n z) {p:Addr} (hp:g≠p.block) (u:Value):Eq13 (W.setCell p u) g t n z:=by
 obtain ⟨cs,h1,h2⟩:=h;exact ⟨cs,h1.far hp u,h2⟩
theorem made13 (W:World) (t:TypeId) (n:Nat) (z:Value):Eq13 (W.alloc (.cells (madeCells #[z] n) t)) W.heap.size t n z :=
 ⟨_,Blk.new W _ _,size_madeCells _ _,fun j hj => by
  have hs:(madeCells #[z] n).size = n:=size_madeCells _ _;rw [Array.getElem?_eq_getElem (by omega)]
  simp [madeCells,Array.getElem_ofFn,Nat.mod_one]⟩
theorem Gb13.start {W:World} {L gb E I n:Nat} (h1:Blk W gb 143 #[.slice (some ⟨E,0,none⟩) n n,.slice (some ⟨I,0,none⟩) n n]) (h2:Eq13 W E 26 n (.slice none 0 0)) (h3:Eq13 W I 3 n (.int .i64 0)) (hb:L<=gb) (he:L<=E) (hi:L<=I) :
  Gb13 W L gb E I n [] (fun _ => 0) (fun _ => none) (fun _ => 0):=by
 obtain ⟨cs,k1,k2,k3⟩:=h3;exact ⟨h1,h2,fun k _ => World.ownsRow_nil _ _ _ _,(by intro j k _ _ _ r hr; cases hr),(by intro k _ hr; cases hr),⟨cs,k1,by omega,k3⟩,hb,he,hi⟩
structure Ls13 (w:World) (gb ga:Nat) (G R:Array Value) (W:World):Prop where
 below:Below w.heap.size w W
 box:Blk W gb 143 G
 arw:Blk W ga 146 R
theorem Ls13.step {w W W':World} {gb ga:Nat} {G R:Array Value} (h:Ls13 w gb ga G R W) (hb:Below W.heap.size W W'):Ls13 w gb ga G R W' :=
 ⟨h.below.trans (hb.mono h.below.size),h.box.below hb h.box.lt,h.arw.below hb h.arw.lt⟩
theorem step_append13 {ops:Array Oper} {o:Oper} {a:Act} {K:Act->World->Prop} {Q:Exit->Act->World->Prop} {E:Prop} (W w':World) (hgd:o.guard = none) (s x:Operand)
  (ho:o.op = .call { callee:=.builtin .append,args:=#[s,x],argTypes:=#[26,26] }) (hty:o.type = 26) (v y r:Value) (hs:a.eval s = v) (hx:a.eval x = y)
  (hrun:(Builtin.append_ #[26,26] 26 #[v,y]).run Tryz.prog W = .ok r w') (h:K (a.put o.dst r) w') :
  if Region.wanted o (yielded ops a.tmps) = true then Oper.wp Tryz.prog o a W K Q else E:=by
 have hw:Region.wanted o (yielded ops a.tmps) = true:=by simp [Region.wanted,hgd]
 rw [if_pos hw];unfold Oper.wp execOp;simp only [ho,hty,resolve,invoke,builtin,Sem.run_bind,Sem.run_pure,Result.andThen_ok,List.map_toArray,List.map_cons,List.map_nil,hs,hx,hrun];exact h
theorem append13 (W:World) (base:Nat) (v:Value) (k:Nat) (xs:List Nat) (x:Nat) (hown:W.ownsRow base 3 1 v k (ints xs)) (hk:k + 1<=10000000) (hbase:base<=W.heap.size) :
  ∃ A' c' w',(Builtin.append_ #[26,26] 26 #[v,.slice (some ⟨W.heap.size,0,none⟩) 1 1]).run Tryz.prog (W.alloc (.cells #[.int .i64 (x:Int)] 3)) = .ok (.slice A' (k + 1) c') w' /\
   w'.ownsRow base 3 1 (.slice A' (k + 1) c') (k + 1) (ints xs ++ ints [x])/\(W.alloc (.cells #[.int .i64 (x:Int)] 3)).grownBy w' v.ownBlock /\
   ((Value.slice A' (k + 1) c').ownBlock = v.ownBlock\/(Value.slice A' (k + 1) c').ownBlock = some (W.alloc (.cells #[.int .i64 (x:Int)] 3)).heap.size):=by
 obtain ⟨v',w',h1,h2,h3,h4⟩:=run_append_rv (P:=Tryz.prog) (W.alloc (.cells #[.int .i64 (x:Int)] 3)) base 26 26 3 (.int .i64 0) 8 Tryz.underlying26 info_int11 rfl (by omega) v k (ints xs) (own7_keep hown (b1' W _)) (W.heap.size + 1) (some ⟨W.heap.size,0,none⟩) (ints [x]) 1
  (rv12_one W x 3) (ints_one [x]) (by simp [ints]; omega) (by simp; omega)
 obtain ⟨A',c',rfl,hc'⟩:=ownsRow_form w' h2;exact ⟨A',c',w',h1,h2,h3,h4⟩
def nn13 (n:Int):Nat:=(min (max n 0) 4096).toNat
theorem nn13_le (n:Int):nn13 n<=4096:=by unfold nn13; omega
theorem cut13_next (N:Nat) {l:List (Int × Int)} {k:Nat} (h:k < l.length):cut13 N (l.take (k + 1)) = cut13 N (l.take k) ++ if 0<=(arr l k).1/\(arr l k).1 < (N:Int)/\0<=(arr l k).2/\(arr l k).2 < (N:Int) then [((arr l k).1.toNat,(arr l k).2.toNat)] else []:=by
 rw [take_arr h,cut13_append]
 congr 1
def RetG13 (w:World) (N:Nat) (A:List (Nat × Nat)) (e:Ending) (w':World):Prop:=∃ E I,e = .returned (gv13 E I N)/\Gr13 w' w'.heap.size E I N A/\w.heap.size<=E/\w.heap.size<=I/\Below w.heap.size w w'
theorem laid13_any (n:Int) (N:Nat) (hN:nn13 n = N) (Ad:Option Addr) (l:List (Int × Int)) (m c:Nat) (w:World) (hl:l.length = m) (hr:Aq w w.heap.size Ad l) (hm:m<=1000000) :
  Calls Tryz.prog 118 #[.int .i64 n,.slice Ad m c] w (RetG13 w N (cut13 N l)):=by
 have HP:Hid (RetG13 w N (cut13 N l) = fun e w' => ∃ E I,e = .returned (gv13 E I N)/\Gr13 w' w'.heap.size E I N (cut13 N l)/\w.heap.size<=E/\w.heap.size<=I/\Below w.heap.size w w'):=qz rfl;have HR:=qz hr;have HL:=qz hl;have hN4:=nn13_le n;have hNI:min (max n 0) 4096 = (N:Int):=by rw [<- hN]; unfold nn13; omega
 rw [hN] at hN4;have hmk1:=make_ints13 N (by omega);have hmk2:=make_ends13 N (by omega);have HR0:=qz (Blk.new w 143 #[.slice none 0 0,.slice none 0 0]);clear hr hl hN;go_enter Tryz.func118,Tryz.ntmps118;go_upto_region 2 with (fail)
 go_cut [5] (fun p wx => ∃ gb E I,p = .pointer (some ⟨gb,0,none⟩)/\Hid (Gb13 wx (w.heap.size + 1) gb E I N [] (fun _ => 0) (fun _ => none) (fun _ => 0))/\Hid (Below (w.heap.size + 1) (w.alloc (.cells #[.slice none 0 0,.slice none 0 0] 143)) wx))
 case first =>
  refine wp_region_held_drew (S:=fun _ => True) (by kernel_rfl) trivial (fun hHeld => ?_);obtain ⟨wn,hwn⟩:=exq ((w.alloc (.cells #[.slice none 0 0,.slice none 0 0] 143)).drew);rw [hwn];have HB:Hid (Below (w.heap.size + 1) (w.alloc (.cells #[.slice none 0 0,.slice none 0 0] 143)) wn):=qz (by rw [<- hwn]; exact (Below.refl _ _).drew);clear hwn;refine tkq 0 ?_
  refine tkq 2 ?_;refine wpAnyH_ready (rs:=[1,3,5]) (by kernel_rfl) (by simp) (AllReadyH.cons (op_of rfl) (fun K hK => ?_) (AllReadyH.cons (op_of rfl) (fun K hK => ?_) (AllReadyH.cons (op_of rfl) (fun K hK => ?_) AllReadyH.nil)))
  ·
   skip;have HE:=qz (made13 wn 26 N (.slice none 0 0));have HLE:Hid (w.heap.size + 1<=wn.heap.size):=qz (by have:=HB.out.size; rw [World.size_alloc] at this; exact this);have HB:=qz (HB.out.trans ((b1' wn (.cells (madeCells #[.slice none 0 0] N) 26)).mono HLE.out));obtain ⟨wa,hwa⟩:=exq (wn.alloc (.cells (madeCells #[.slice none 0 0] N) 26))
   obtain ⟨E,hE⟩:=exq wn.heap.size;rw [hwa] at HB HE;rw [hE] at HE HLE;go_simp;refine koq hK trivial (fun hHeld=>?_);clear hK K;refine wpAnyH_ready (rs:=[3,5]) (by kernel_rfl) (by simp) (AllReadyH.cons (op_of rfl) (fun K hK => ?_) (AllReadyH.cons (op_of rfl) (fun K hK => ?_) AllReadyH.nil))
   ·
    skip;have HI:=qz (made13 wa 3 N (.int .i64 0));have HE:=qz (HE.out.step (b1' wa (.cells (madeCells #[.int .i64 0] N) 3)));have HLI:Hid (w.heap.size + 1<=wa.heap.size):=qz (by have:=HB.out.size; rw [World.size_alloc] at this; exact this);have HB:=qz (HB.out.trans ((b1' wa (.cells (madeCells #[.int .i64 0] N) 3)).mono HLI.out))
    obtain ⟨wb,hwb⟩:=exq (wa.alloc (.cells (madeCells #[.int .i64 0] N) 3));obtain ⟨I,hI⟩:=exq wa.heap.size;rw [hwb] at HB HI HE;rw [hI] at HI HLI;go_simp;refine koq hK trivial (fun hHeld=>?_);clear hK K;refine tkq 4 ?_;refine rdy 5 (fun K hK => ?_);have HX:=qz (Blk.new wb 143 #[.slice none 0 0,.slice none 0 0])
    have HE:=qz (HE.out.step (b1' wb (.cells #[.slice none 0 0,.slice none 0 0] 143)));have HI:=qz (HI.out.step (b1' wb (.cells #[.slice none 0 0,.slice none 0 0] 143)));have HLB:Hid (w.heap.size + 1<=wb.heap.size):=qz (by have:=HB.out.size; rw [World.size_alloc] at this; exact this)
    have HB:=qz (HB.out.trans ((b1' wb (.cells #[.slice none 0 0,.slice none 0 0] 143)).mono HLB.out));obtain ⟨wc,hwc⟩:=exq (wb.alloc (.cells #[.slice none 0 0,.slice none 0 0] 143));obtain ⟨gb,hgb⟩:=exq wb.heap.size;rw [hwc] at HB HX HE HI;rw [hgb] at HX HLB;go_simp;refine koq hK trivial (fun hHeld=>?_);clear hK K;refine rdy 6 (fun K hK => ?_)
    have x0:=HX.out.cell 0;have x1:=HX.out.cell 1;have xf0:=HX.out.frozen 0;have xf1:=HX.out.frozen 1;go_simp;refine koq hK trivial (fun hHeld=>?_);clear hK K;refine wpAnyH_done (by kernel_rfl) ?_ _
    have hEX:E≠gb:=by
     obtain ⟨es,h1,_⟩:=HE.out;exact blk_ne12 h1 HX.out (by decide)
    have hIX:I≠gb:=by
     obtain ⟨es,h1,_⟩:=HI.out;exact blk_ne12 h1 HX.out (by decide)
    go_wp2_with fail;go_meet;refine ⟨gb,E,I,rfl,qz (Gb13.start (by simpa using (HX.out.set_ 0 (.slice (some ⟨E,0,none⟩) N N)).set_ 1 (.slice (some ⟨I,0,none⟩) N N)) ((HE.out.far (by exact hEX) _).far (by exact hEX) _) ((HI.out.far (by exact hIX) _).far (by exact hIX) _) HLB.out HLE.out HLI.out),qz ((HB.out.setCell HLB.out _).setCell HLB.out _)⟩
   ·
    skip;have HX:=qz (Blk.new wa 143 #[.slice none 0 0,.slice none 0 0]);have HE:=qz (HE.out.step (b1' wa (.cells #[.slice none 0 0,.slice none 0 0] 143)));have HLB:Hid (w.heap.size + 1<=wa.heap.size):=qz (by have:=HB.out.size; rw [World.size_alloc] at this; exact this)
    have HB:=qz (HB.out.trans ((b1' wa (.cells #[.slice none 0 0,.slice none 0 0] 143)).mono HLB.out));obtain ⟨wb,hwb⟩:=exq (wa.alloc (.cells #[.slice none 0 0,.slice none 0 0] 143));obtain ⟨gb,hgb⟩:=exq wa.heap.size;rw [hwb] at HB HX HE;rw [hgb] at HX HLB;go_simp;refine koq hK trivial (fun hHeld=>?_);clear hK K;refine rdy 3 (fun K hK => ?_)
    have HI:=qz (made13 wb 3 N (.int .i64 0));have HE:=qz (HE.out.step (b1' wb (.cells (madeCells #[.int .i64 0] N) 3)));have HX:=qz (HX.out.below (b1' wb (.cells (madeCells #[.int .i64 0] N) 3)) HX.out.lt);have HLI:Hid (w.heap.size + 1<=wb.heap.size):=qz (by have:=HB.out.size; rw [World.size_alloc] at this; exact this)
    have HB:=qz (HB.out.trans ((b1' wb (.cells (madeCells #[.int .i64 0] N) 3)).mono HLI.out));obtain ⟨wc,hwc⟩:=exq (wb.alloc (.cells (madeCells #[.int .i64 0] N) 3));obtain ⟨I,hI⟩:=exq wb.heap.size;rw [hwc] at HB HI HE HX;rw [hI] at HI HLI;go_simp;refine koq hK trivial (fun hHeld=>?_);clear hK K;refine tkq 4 ?_;refine rdy 6 (fun K hK => ?_)
    have x0:=HX.out.cell 0;have x1:=HX.out.cell 1;have xf0:=HX.out.frozen 0;have xf1:=HX.out.frozen 1;go_simp;refine koq hK trivial (fun hHeld=>?_);clear hK K;refine wpAnyH_done (by kernel_rfl) ?_ _
    have hEX:E≠gb:=by
     obtain ⟨es,h1,_⟩:=HE.out;exact blk_ne12 h1 HX.out (by decide)
    have hIX:I≠gb:=by
     obtain ⟨es,h1,_⟩:=HI.out;exact blk_ne12 h1 HX.out (by decide)
    go_wp2_with fail;go_meet;refine ⟨gb,E,I,rfl,qz (Gb13.start (by simpa using (HX.out.set_ 0 (.slice (some ⟨E,0,none⟩) N N)).set_ 1 (.slice (some ⟨I,0,none⟩) N N)) ((HE.out.far (by exact hEX) _).far (by exact hEX) _) ((HI.out.far (by exact hIX) _).far (by exact hIX) _) HLB.out HLE.out HLI.out),qz ((HB.out.setCell HLB.out _).setCell HLB.out _)⟩
  ·
   skip;have HI:=qz (made13 wn 3 N (.int .i64 0));have HLI:Hid (w.heap.size + 1<=wn.heap.size):=qz (by have:=HB.out.size; rw [World.size_alloc] at this; exact this);have HB:=qz (HB.out.trans ((b1' wn (.cells (madeCells #[.int .i64 0] N) 3)).mono HLI.out));obtain ⟨wa,hwa⟩:=exq (wn.alloc (.cells (madeCells #[.int .i64 0] N) 3))
   obtain ⟨I,hI⟩:=exq wn.heap.size;rw [hwa] at HB HI;rw [hI] at HI HLI;go_simp;refine koq hK trivial (fun hHeld=>?_);clear hK K;refine wpAnyH_ready (rs:=[1,5]) (by kernel_rfl) (by simp) (AllReadyH.cons (op_of rfl) (fun K hK => ?_) (AllReadyH.cons (op_of rfl) (fun K hK => ?_) AllReadyH.nil))
   ·
    skip;have HE:=qz (made13 wa 26 N (.slice none 0 0));have HI:=qz (HI.out.step (b1' wa (.cells (madeCells #[.slice none 0 0] N) 26)));have HLE:Hid (w.heap.size + 1<=wa.heap.size):=qz (by have:=HB.out.size; rw [World.size_alloc] at this; exact this);have HB:=qz (HB.out.trans ((b1' wa (.cells (madeCells #[.slice none 0 0] N) 26)).mono HLE.out))
    obtain ⟨wb,hwb⟩:=exq (wa.alloc (.cells (madeCells #[.slice none 0 0] N) 26));obtain ⟨E,hE⟩:=exq wa.heap.size;rw [hwb] at HB HE HI;rw [hE] at HE HLE;go_simp;refine koq hK trivial (fun hHeld=>?_);clear hK K;refine tkq 4 ?_;refine rdy 5 (fun K hK => ?_);have HX:=qz (Blk.new wb 143 #[.slice none 0 0,.slice none 0 0])
    have HE:=qz (HE.out.step (b1' wb (.cells #[.slice none 0 0,.slice none 0 0] 143)));have HI:=qz (HI.out.step (b1' wb (.cells #[.slice none 0 0,.slice none 0 0] 143)));have HLB:Hid (w.heap.size + 1<=wb.heap.size):=qz (by have:=HB.out.size; rw [World.size_alloc] at this; exact this)
    have HB:=qz (HB.out.trans ((b1' wb (.cells #[.slice none 0 0,.slice none 0 0] 143)).mono HLB.out));obtain ⟨wc,hwc⟩:=exq (wb.alloc (.cells #[.slice none 0 0,.slice none 0 0] 143));obtain ⟨gb,hgb⟩:=exq wb.heap.size;rw [hwc] at HB HX HE HI;rw [hgb] at HX HLB;go_simp;refine koq hK trivial (fun hHeld=>?_);clear hK K;refine rdy 6 (fun K hK => ?_)
    have x0:=HX.out.cell 0;have x1:=HX.out.cell 1;have xf0:=HX.out.frozen 0;have xf1:=HX.out.frozen 1;go_simp;refine koq hK trivial (fun hHeld=>?_);clear hK K;refine wpAnyH_done (by kernel_rfl) ?_ _
    have hEX:E≠gb:=by
     obtain ⟨es,h1,_⟩:=HE.out;exact blk_ne12 h1 HX.out (by decide)
    have hIX:I≠gb:=by
     obtain ⟨es,h1,_⟩:=HI.out;exact blk_ne12 h1 HX.out (by decide)
    go_wp2_with fail;go_meet;refine ⟨gb,E,I,rfl,qz (Gb13.start (by simpa using (HX.out.set_ 0 (.slice (some ⟨E,0,none⟩) N N)).set_ 1 (.slice (some ⟨I,0,none⟩) N N)) ((HE.out.far (by exact hEX) _).far (by exact hEX) _) ((HI.out.far (by exact hIX) _).far (by exact hIX) _) HLB.out HLE.out HLI.out),qz ((HB.out.setCell HLB.out _).setCell HLB.out _)⟩
   ·
    skip;have HX:=qz (Blk.new wa 143 #[.slice none 0 0,.slice none 0 0]);have HI:=qz (HI.out.step (b1' wa (.cells #[.slice none 0 0,.slice none 0 0] 143)));have HLB:Hid (w.heap.size + 1<=wa.heap.size):=qz (by have:=HB.out.size; rw [World.size_alloc] at this; exact this)
    have HB:=qz (HB.out.trans ((b1' wa (.cells #[.slice none 0 0,.slice none 0 0] 143)).mono HLB.out));obtain ⟨wb,hwb⟩:=exq (wa.alloc (.cells #[.slice none 0 0,.slice none 0 0] 143));obtain ⟨gb,hgb⟩:=exq wa.heap.size;rw [hwb] at HB HX HI;rw [hgb] at HX HLB;go_simp;refine koq hK trivial (fun hHeld=>?_);clear hK K;refine rdy 1 (fun K hK => ?_)
    have HE:=qz (made13 wb 26 N (.slice none 0 0));have HI:=qz (HI.out.step (b1' wb (.cells (madeCells #[.slice none 0 0] N) 26)));have HX:=qz (HX.out.below (b1' wb (.cells (madeCells #[.slice none 0 0] N) 26)) HX.out.lt);have HLE:Hid (w.heap.size + 1<=wb.heap.size):=qz (by have:=HB.out.size; rw [World.size_alloc] at this; exact this)
    have HB:=qz (HB.out.trans ((b1' wb (.cells (madeCells #[.slice none 0 0] N) 26)).mono HLE.out));obtain ⟨wc,hwc⟩:=exq (wb.alloc (.cells (madeCells #[.slice none 0 0] N) 26));obtain ⟨E,hE⟩:=exq wb.heap.size;rw [hwc] at HB HE HI HX;rw [hE] at HE HLE;go_simp;refine koq hK trivial (fun hHeld=>?_);clear hK K;refine tkq 4 ?_;refine rdy 6 (fun K hK => ?_)
    have x0:=HX.out.cell 0;have x1:=HX.out.cell 1;have xf0:=HX.out.frozen 0;have xf1:=HX.out.frozen 1;go_simp;refine koq hK trivial (fun hHeld=>?_);clear hK K;refine wpAnyH_done (by kernel_rfl) ?_ _
    have hEX:E≠gb:=by
     obtain ⟨es,h1,_⟩:=HE.out;exact blk_ne12 h1 HX.out (by decide)
    have hIX:I≠gb:=by
     obtain ⟨es,h1,_⟩:=HI.out;exact blk_ne12 h1 HX.out (by decide)
    go_wp2_with fail;go_meet;refine ⟨gb,E,I,rfl,qz (Gb13.start (by simpa using (HX.out.set_ 0 (.slice (some ⟨E,0,none⟩) N N)).set_ 1 (.slice (some ⟨I,0,none⟩) N N)) ((HE.out.far (by exact hEX) _).far (by exact hEX) _) ((HI.out.far (by exact hIX) _).far (by exact hIX) _) HLB.out HLE.out HLI.out),qz ((HB.out.setCell HLB.out _).setCell HLB.out _)⟩
  ·
   skip;have HX:=qz (Blk.new wn 143 #[.slice none 0 0,.slice none 0 0]);have HLB:Hid (w.heap.size + 1<=wn.heap.size):=qz (by have:=HB.out.size; rw [World.size_alloc] at this; exact this);have HB:=qz (HB.out.trans ((b1' wn (.cells #[.slice none 0 0,.slice none 0 0] 143)).mono HLB.out))
   obtain ⟨wa,hwa⟩:=exq (wn.alloc (.cells #[.slice none 0 0,.slice none 0 0] 143));obtain ⟨gb,hgb⟩:=exq wn.heap.size;rw [hwa] at HB HX;rw [hgb] at HX HLB;go_simp;refine koq hK trivial (fun hHeld=>?_);clear hK K
   refine wpAnyH_ready (rs:=[1,3]) (by kernel_rfl) (by simp) (AllReadyH.cons (op_of rfl) (fun K hK => ?_) (AllReadyH.cons (op_of rfl) (fun K hK => ?_) AllReadyH.nil))
   ·
    skip;have HE:=qz (made13 wa 26 N (.slice none 0 0));have HX:=qz (HX.out.below (b1' wa (.cells (madeCells #[.slice none 0 0] N) 26)) HX.out.lt);have HLE:Hid (w.heap.size + 1<=wa.heap.size):=qz (by have:=HB.out.size; rw [World.size_alloc] at this; exact this);have HB:=qz (HB.out.trans ((b1' wa (.cells (madeCells #[.slice none 0 0] N) 26)).mono HLE.out))
    obtain ⟨wb,hwb⟩:=exq (wa.alloc (.cells (madeCells #[.slice none 0 0] N) 26));obtain ⟨E,hE⟩:=exq wa.heap.size;rw [hwb] at HB HE HX;rw [hE] at HE HLE;go_simp;refine koq hK trivial (fun hHeld=>?_);clear hK K;refine rdy 3 (fun K hK => ?_);have HI:=qz (made13 wb 3 N (.int .i64 0));have HE:=qz (HE.out.step (b1' wb (.cells (madeCells #[.int .i64 0] N) 3)))
    have HX:=qz (HX.out.below (b1' wb (.cells (madeCells #[.int .i64 0] N) 3)) HX.out.lt);have HLI:Hid (w.heap.size + 1<=wb.heap.size):=qz (by have:=HB.out.size; rw [World.size_alloc] at this; exact this);have HB:=qz (HB.out.trans ((b1' wb (.cells (madeCells #[.int .i64 0] N) 3)).mono HLI.out))
    obtain ⟨wc,hwc⟩:=exq (wb.alloc (.cells (madeCells #[.int .i64 0] N) 3));obtain ⟨I,hI⟩:=exq wb.heap.size;rw [hwc] at HB HI HE HX;rw [hI] at HI HLI;go_simp;refine koq hK trivial (fun hHeld=>?_);clear hK K;refine tkq 4 ?_;refine rdy 6 (fun K hK => ?_);have x0:=HX.out.cell 0;have x1:=HX.out.cell 1;have xf0:=HX.out.frozen 0;have xf1:=HX.out.frozen 1
    go_simp;refine koq hK trivial (fun hHeld=>?_);clear hK K;refine wpAnyH_done (by kernel_rfl) ?_ _
    have hEX:E≠gb:=by
     obtain ⟨es,h1,_⟩:=HE.out;exact blk_ne12 h1 HX.out (by decide)
    have hIX:I≠gb:=by
     obtain ⟨es,h1,_⟩:=HI.out;exact blk_ne12 h1 HX.out (by decide)
    go_wp2_with fail;go_meet;refine ⟨gb,E,I,rfl,qz (Gb13.start (by simpa using (HX.out.set_ 0 (.slice (some ⟨E,0,none⟩) N N)).set_ 1 (.slice (some ⟨I,0,none⟩) N N)) ((HE.out.far (by exact hEX) _).far (by exact hEX) _) ((HI.out.far (by exact hIX) _).far (by exact hIX) _) HLB.out HLE.out HLI.out),qz ((HB.out.setCell HLB.out _).setCell HLB.out _)⟩
   ·
    skip;have HI:=qz (made13 wa 3 N (.int .i64 0));have HX:=qz (HX.out.below (b1' wa (.cells (madeCells #[.int .i64 0] N) 3)) HX.out.lt);have HLI:Hid (w.heap.size + 1<=wa.heap.size):=qz (by have:=HB.out.size; rw [World.size_alloc] at this; exact this);have HB:=qz (HB.out.trans ((b1' wa (.cells (madeCells #[.int .i64 0] N) 3)).mono HLI.out))
    obtain ⟨wb,hwb⟩:=exq (wa.alloc (.cells (madeCells #[.int .i64 0] N) 3));obtain ⟨I,hI⟩:=exq wa.heap.size;rw [hwb] at HB HI HX;rw [hI] at HI HLI;go_simp;refine koq hK trivial (fun hHeld=>?_);clear hK K;refine rdy 1 (fun K hK => ?_);have HE:=qz (made13 wb 26 N (.slice none 0 0))
    have HI:=qz (HI.out.step (b1' wb (.cells (madeCells #[.slice none 0 0] N) 26)));have HX:=qz (HX.out.below (b1' wb (.cells (madeCells #[.slice none 0 0] N) 26)) HX.out.lt);have HLE:Hid (w.heap.size + 1<=wb.heap.size):=qz (by have:=HB.out.size; rw [World.size_alloc] at this; exact this)
    have HB:=qz (HB.out.trans ((b1' wb (.cells (madeCells #[.slice none 0 0] N) 26)).mono HLE.out));obtain ⟨wc,hwc⟩:=exq (wb.alloc (.cells (madeCells #[.slice none 0 0] N) 26));obtain ⟨E,hE⟩:=exq wb.heap.size;rw [hwc] at HB HE HI HX;rw [hE] at HE HLE;go_simp;refine koq hK trivial (fun hHeld=>?_);clear hK K;refine tkq 4 ?_;refine rdy 6 (fun K hK => ?_)
    have x0:=HX.out.cell 0;have x1:=HX.out.cell 1;have xf0:=HX.out.frozen 0;have xf1:=HX.out.frozen 1;go_simp;refine koq hK trivial (fun hHeld=>?_);clear hK K;refine wpAnyH_done (by kernel_rfl) ?_ _
    have hEX:E≠gb:=by
     obtain ⟨es,h1,_⟩:=HE.out;exact blk_ne12 h1 HX.out (by decide)
    have hIX:I≠gb:=by
     obtain ⟨es,h1,_⟩:=HI.out;exact blk_ne12 h1 HX.out (by decide)
    go_wp2_with fail;go_meet;refine ⟨gb,E,I,rfl,qz (Gb13.start (by simpa using (HX.out.set_ 0 (.slice (some ⟨E,0,none⟩) N N)).set_ 1 (.slice (some ⟨I,0,none⟩) N N)) ((HE.out.far (by exact hEX) _).far (by exact hEX) _) ((HI.out.far (by exact hIX) _).far (by exact hIX) _) HLB.out HLE.out HLI.out),qz ((HB.out.setCell HLB.out _).setCell HLB.out _)⟩
 case rest =>
 obtain ⟨gb,E,I,rfl,HG,HB⟩:=hcut;clear hmk1 hmk2;have HR1:Hid (∀ W,Below (w.heap.size + 1) (w.alloc (.cells #[.slice none 0 0,.slice none 0 0] 143)) W->Below w.heap.size w W):=qz (fun W h => (b1' w _).trans (h.mono (by omega)));go_wp2_with fail
 go_loopw [18] (fun i wr => ∃ (k:Nat) (h:Nat->Nat) (Af:Nat->Option Addr) (cf:Nat->Nat),i = .int .i64 (k:Int)/\k<=m/\Hid (Gb13 wr (w.heap.size + 1) gb E I N (cut13 N (l.take k)) h Af cf)/\Hid (∀ j,j < N->h j = rem13 (cut13 N (l.take k)) [] j)/\Hid (Below (w.heap.size + 1) (w.alloc (.cells #[.slice none 0 0,.slice none 0 0] 143)) wr)) (fun i _ => m - (intOf i).toNat)
 case atStart => exact ⟨0,_,_,_,rfl,by omega,HG,qz (fun j _ => rfl),HB⟩
 case round =>
  clear HG HB;obtain ⟨k,h,Af,cf,rfl,hk,HG,HH,HB⟩:=hrel;by_cases hkm:k < m
  ·
   obtain ⟨a,o,hA,ha,c0,c1⟩:=Aq.at_ (Rv.below HR.out (HR1.out _ HB.out) (Nat.le_refl _)) (show k < l.length by have:=HL.out; omega);subst hA;obtain ⟨fi,hfi⟩:=exq ((arr l k).1);obtain ⟨ti,hti⟩:=exq ((arr l k).2);rw [hfi] at c0;rw [hti] at c1;have hct:=cut13_next N (show k < l.length by have:=HL.out; omega);rw [hfi,hti] at hct
   have i0:(0:Int)<=(k:Int):=by omega
   have i1:(k:Int) < (m:Int):=by omega
   have hb1:=b1' wr (.cells #[.int .i64 fi,.int .i64 ti] 146);have hsz:=HB.out.size;rw [World.size_alloc] at hsz;have hg1:=HG.out.step hb1;have HB1:=qz (HB.out.trans (hb1.mono hsz))
   have hls1:Ls13 w gb wr.heap.size #[.slice (some ⟨E,0,none⟩) N N,.slice (some ⟨I,0,none⟩) N N] #[.int .i64 fi,.int .i64 ti] (wr.alloc (.cells #[.int .i64 fi,.int .i64 ti] 146)):=⟨HR1.out _ HB1.out,hg1.box,Blk.new _ _ _⟩
   have x0:=hls1.box.cell 0;have x1:=hls1.box.cell 1;have y0:=hls1.arw.cell 0;have y1:=hls1.arw.cell 1;have HH1:=qz (has13_any E I N fi (wr.alloc (.cells #[.int .i64 fi,.int .i64 ti] 146)) _ rfl);unfold gv13 at HH1;have HG1:=qz hg1;have HLS1:=qz hls1;clear hb1 hg1 hls1 hsz hfi hti;by_cases hfin:0<=fi/\fi < (N:Int)
   ·
    rw [decide_eq_true hfin] at HH1;obtain ⟨f,rfl⟩:∃ f:Nat,fi = (f:Int):=⟨fi.toNat,by omega⟩
    have hfn:f < N:=by omega
    by_cases htin:0<=ti/\ti < (N:Int)
    ·
     obtain ⟨t,rfl⟩:∃ t:Nat,ti = (t:Int):=⟨ti.toNat,by omega⟩
     have htn:t < N:=by omega
     rw [if_pos ⟨hfin.1,hfin.2,htin.1,htin.2⟩,Int.toNat_natCast,Int.toNat_natCast] at hct;have HCT:=qz hct;clear hct;go_wp2_with fail;refine HH1.out.mono ?_;rintro e w2 ⟨rfl,hb2⟩;have hls2:=HLS1.out.step hb2;have x0:=hls2.box.cell 0;have x1:=hls2.box.cell 1;have y0:=hls2.arw.cell 0;have y1:=hls2.arw.cell 1;have HH2:=qz (has13_any E I N (t:Int) w2 _ rfl)
     rw [decide_eq_true htin] at HH2;unfold gv13 at HH2;have HG2:=qz (HG1.out.step hb2);have HS1:Hid (w.heap.size + 1<=(wr.alloc (.cells #[.int .i64 (f:Int),.int .i64 (t:Int)] 146)).heap.size):=qz (by have:=HB1.out.size; rw [World.size_alloc] at this; exact this);have HB2:=qz (HB1.out.trans (hb2.mono HS1.out));have HLS2:=qz hls2
     clear HH1 hls2 hb2 HB1 HG1 HLS1;go_wp2_with fail;refine HH2.out.mono ?_;rintro e w3 ⟨rfl,hb3⟩;have HS2:Hid (w.heap.size + 1<=w2.heap.size):=qz (by have:=HB2.out.size; rw [World.size_alloc] at this; exact this);have HB3:=qz ((HB2.out.trans (hb3.mono HS2.out)).drew);have HG0:=qz ((HG2.out.step hb3).step (Below.refl _ _).drew)
     have HLS0:=qz ((HLS2.out.step hb3).step (Below.refl _ _).drew);clear HH2 hb3 HB2 HG2 HLS2 HS1 HS2 x0 x1 y0 y1;go_wp2_with fail;obtain ⟨wn,hwn⟩:=exq w3.drew;rw [hwn] at HB3 HG0 HLS0;have hs0:w.heap.size + 1<=wn.heap.size:=by have:=HB3.out.size; rw [World.size_alloc] at this; exact this
     have HS0:=qz hs0;obtain ⟨nf,hnf⟩:=exq ((outs (cut13 N (l.take k)) f).length)
     have hnfm:nf<=1000000:=by
      have h1:=outs_len (cut13 N (l.take k)) f;have h2:=cut13_len N (l.take k);rw [List.length_take] at h2;omega
     obtain ⟨r0,r1⟩:=HG0.out.cell hfn;have hrow:=HG0.out.rows f hfn;rw [hnf] at r0 hrow;obtain ⟨A',c',wq,hap,hown,hgr,hbl⟩:=append13 wn (w.heap.size + 1) _ nf _ t hrow (by omega) hs0;obtain ⟨hG4,hB4,r3,rf3⟩:=HG0.out.add hfn hs0 (by rw [hnf]; exact hgr) (by rw [hnf]; exact hown) (by rw [hnf]; exact hbl);rw [hnf] at hG4 hB4 r3
     have hb12:=b1' wn (.cells #[.int .i64 (t:Int)] 3);have hls1:=HLS0.out.step hb12;have hbq:Below (w.heap.size + 1) wn wq:=(hb12.mono hs0).grown hgr (by simp; omega) (fun r hr => (hrow.lt r hr).1)
     have hls3:Ls13 w gb wr.heap.size #[.slice (some ⟨E,0,none⟩) N N,.slice (some ⟨I,0,none⟩) N N] #[.int .i64 (f:Int),.int .i64 (t:Int)] wq :=
      ⟨HLS0.out.below.trans (hbq.mono (by omega)),hls1.box.grown hgr (fun e => own7_ne hrow HLS0.out.box (by decide) e.symm),hls1.arw.grown hgr (fun e => own7_ne hrow HLS0.out.arw (by decide) e.symm)⟩
     have hEa:wr.heap.size≠E:=by
      obtain ⟨es,h1,_⟩:=HG0.out.ends;exact blk_ne12 HLS0.out.arw h1 (by decide)
     have hls4:Ls13 w gb wr.heap.size #[.slice (some ⟨E,0,none⟩) N N,.slice (some ⟨I,0,none⟩) N N] #[.int .i64 (f:Int),.int .i64 (t:Int)] (wq.setCell ⟨E,f,none⟩ (.slice A' (nf + 1) c')) :=
      ⟨hls3.below.setCell (by have:=HG0.out.le; show w.heap.size<=E; omega) _,hls3.box.far (by exact fun e => HG0.out.neE e.symm) _,hls3.arw.far (by exact hEa) _⟩
     have HX:Hid (∀ j,j < N->h j<=1000000):=qz (fun j hj => by
      rw [HH.out j hj];have h1:=rem13_le (cut13 N (l.take k)) [] j;have h2:=cut13_len N (l.take k);rw [List.length_take] at h2
      omega)
     have HC0:=qz r0;have HC1:Hid ((wn.alloc (.cells #[.int .i64 (t:Int)] 3)).cell? ⟨E,f,none⟩ = some (.slice (Af f) nf (cf f))):=qz ((hb12.cell (p:=⟨E,f,none⟩) (World.block_lt_of_cell? _ _ r0)).trans r0);have HC3:=qz r3;have HF3:=qz rf3;have HAP:=qz hap;have HLS1:=qz hls1;have HLS3:=qz hls3;have HLS4:=qz hls4;have HB4:=qz (HB3.out.trans hB4)
     have HG4:=qz hG4;obtain ⟨Aff,hAff⟩:=exq (Af f);obtain ⟨cff,hcff⟩:=exq (cf f);rw [hAff,hcff] at HC0 HC1 HC3 HAP;have fi0:(0:Int)<=(f:Int):=by omega
     have fi1:(f:Int) < (N:Int):=by omega
     have ti0:(0:Int)<=(t:Int):=by omega
     have ti1:(t:Int) < (N:Int):=by omega
     obtain ⟨w4,hw4⟩:=exq (wq.setCell ⟨E,f,none⟩ (.slice A' (nf + 1) c'));rw [hw4] at HLS4 HB4 HG4;clear r0 r1 hrow hap hown hgr hbl hG4 hB4 r3 rf3 hb12 hls1 hbq hls3 hls4 hEa hs0 hnf hAff hcff hfin htin
     refine wp_region_held_drew (S:=Ls13 w gb wr.heap.size #[.slice (some ⟨E,0,none⟩) N N,.slice (some ⟨I,0,none⟩) N N] #[.int .i64 (f:Int),.int .i64 (t:Int)]) (by kernel_rfl) (by rw [hwn]; exact HLS0.out) (fun hHeld => ?_);rw [hwn] at hHeld ⊢;have HBS:=HLS0;refine tkq 0 ?_;refine tk 1 (v:=?_) (fun W hS => ?_) ?_;rotate_left
     ·
      try try dsimp only at hS
      have z0:=hS.box.cell 0;go_simp
      try with_reducible rfl
     try simp only [Act.put,pt1,pt2,pt3]
     refine tkq 2 ?_;refine tk 3 (v:=?_) (fun W hS => ?_) ?_;rotate_left
     ·
      try try dsimp only at hS
      have z0:=hS.arw.cell 0;go_simp
      try with_reducible rfl
     try simp only [Act.put,pt1,pt2,pt3]
     refine tkq 4 ?_;refine tk 5 (v:=?_) (fun W hS => ?_) ?_;rotate_left
     ·
      try try dsimp only at hS
      have z0:=hS.box.cell 0;go_simp
      try with_reducible rfl
     try simp only [Act.put,pt1,pt2,pt3]
     refine tkq 6 ?_;refine tk 7 (v:=?_) (fun W hS => ?_) ?_;rotate_left
     ·
      try try dsimp only at hS
      have z0:=hS.arw.cell 0;go_simp
      try with_reducible rfl
     try simp only [Act.put,pt1,pt2,pt3]
     refine tkq 8 ?_;refine tkq 10 ?_;refine tk 11 (v:=?_) (fun W hS => ?_) ?_;rotate_left
     ·
      try try dsimp only at hS
      have z0:=hS.arw.cell 1;go_simp
      try with_reducible rfl
     try simp only [Act.put,pt1,pt2,pt3]
     refine wpAnyH_ready (rs:=[9,12]) (by kernel_rfl) (by simp) (AllReadyH.cons (op_of rfl) (fun K hK => ?_) (AllReadyH.cons (op_of rfl) (fun K hK => ?_) AllReadyH.nil))
     ·
      skip;have r0:=HC0.out;have r1:=HC1.out;go_simp;refine koq hK HBS.out (fun hHeld=>?_);clear hK K;refine rdy 12 (fun K hK => ?_);have HBS:=HLS1;go_simp;refine koq hK HBS.out (fun hHeld=>?_);clear hK K;refine rdy 13 (fun K hK => ?_);have hap:=HAP.out;have HBS:=HLS3
      refine step_append13 _ wq (by rfl) _ _ (by rfl) (by rfl) _ _ _ (by rfl) (by rfl) hap ?_;clear hap;refine koq hK HBS.out (fun hHeld=>?_);clear hK K;refine tkq 14 ?_;refine rdy 15 (fun K hK => ?_);have r3:=HC3.out;have rf3:=HF3.out;have HBS:=HLS4;go_simp;refine koq hK HBS.out (fun hHeld=>?_);clear hK K;refine wpAnyH_done (by kernel_rfl) ?_ _
      clear hHeld
      try rw [hw4]
      have HG4:=HG4;have q0:=HG4.out.box.cell 1;have q1:=HLS4.out.arw.cell 1;obtain ⟨q2,q3⟩:=HG4.out.into.cells htn;obtain ⟨x,hx⟩:=exq (h t);rw [hx] at q2;have hxb:=HX.out t htn;rw [hx] at hxb;have hwx:IntKind.i64.wrap ((x:Int) + 1) = ((x + 1:Nat):Int):=by rw [IntKind.wrap_i64]; omega
      obtain ⟨y,hy⟩:=exq (x + 1);rw [hy] at hwx;have HG5:=qz (HG4.out.count htn y);have HB5:=qz (HB4.out.setCell (p:=⟨I,t,none⟩) HG4.out.li (.int .i64 (y:Int)))
      have HH5:Hid (∀ j,j < N->upd h t y j = rem13 (cut13 N (l.take (k + 1))) [] j):=qz (fun j hj => by
       rw [HCT.out,rem13_next];by_cases hjt:t = j
       ·
        subst hjt;rw [upd_at,if_pos rfl,<- hy,<- hx,HH.out t hj]
       ·
        rw [upd_far _ _ (fun e => hjt e.symm),if_neg hjt,HH.out j hj]
        rfl)
      clear hx hy hxb;go_wp2_with fail;go_roundw
      case rel => exact ⟨k + 1,_,_,_,by go_num,by omega,by rw [HCT.out]; exact HG5,HH5,HB5⟩
      case measure => simp [intOf]; omega
     ·
      skip;have HBS:=HLS1;go_simp;refine koq hK HBS.out (fun hHeld=>?_);clear hK K;refine rdy 9 (fun K hK => ?_);have r0:=HC0.out;have r1:=HC1.out;go_simp;refine koq hK HBS.out (fun hHeld=>?_);clear hK K;refine rdy 13 (fun K hK => ?_);have hap:=HAP.out;have HBS:=HLS3
      refine step_append13 _ wq (by rfl) _ _ (by rfl) (by rfl) _ _ _ (by rfl) (by rfl) hap ?_;clear hap;refine koq hK HBS.out (fun hHeld=>?_);clear hK K;refine tkq 14 ?_;refine rdy 15 (fun K hK => ?_);have r3:=HC3.out;have rf3:=HF3.out;have HBS:=HLS4;go_simp;refine koq hK HBS.out (fun hHeld=>?_);clear hK K;refine wpAnyH_done (by kernel_rfl) ?_ _
      clear hHeld
      try rw [hw4]
      have HG4:=HG4;have q0:=HG4.out.box.cell 1;have q1:=HLS4.out.arw.cell 1;obtain ⟨q2,q3⟩:=HG4.out.into.cells htn;obtain ⟨x,hx⟩:=exq (h t);rw [hx] at q2;have hxb:=HX.out t htn;rw [hx] at hxb;have hwx:IntKind.i64.wrap ((x:Int) + 1) = ((x + 1:Nat):Int):=by rw [IntKind.wrap_i64]; omega
      obtain ⟨y,hy⟩:=exq (x + 1);rw [hy] at hwx;have HG5:=qz (HG4.out.count htn y);have HB5:=qz (HB4.out.setCell (p:=⟨I,t,none⟩) HG4.out.li (.int .i64 (y:Int)))
      have HH5:Hid (∀ j,j < N->upd h t y j = rem13 (cut13 N (l.take (k + 1))) [] j):=qz (fun j hj => by
       rw [HCT.out,rem13_next];by_cases hjt:t = j
       ·
        subst hjt;rw [upd_at,if_pos rfl,<- hy,<- hx,HH.out t hj]
       ·
        rw [upd_far _ _ (fun e => hjt e.symm),if_neg hjt,HH.out j hj]
        rfl)
      clear hx hy hxb;go_wp2_with fail;go_roundw
      case rel => exact ⟨k + 1,_,_,_,by go_num,by omega,by rw [HCT.out]; exact HG5,HH5,HB5⟩
      case measure => simp [intOf]; omega
    ·
     rw [if_neg (fun e => htin ⟨e.2.2.1,e.2.2.2⟩),List.append_nil] at hct;have HCT:=qz hct;clear hct;go_wp2_with fail;refine HH1.out.mono ?_;rintro e w2 ⟨rfl,hb2⟩;have hls2:=HLS1.out.step hb2;have x0:=hls2.box.cell 0;have x1:=hls2.box.cell 1;have y0:=hls2.arw.cell 0;have y1:=hls2.arw.cell 1;have HH2:=qz (has13_any E I N ti w2 _ rfl)
     rw [decide_eq_false htin] at HH2;unfold gv13 at HH2;have HG2:=qz (HG1.out.step hb2);have HS1:Hid (w.heap.size + 1<=(wr.alloc (.cells #[.int .i64 (f:Int),.int .i64 ti] 146)).heap.size):=qz (by have:=HB1.out.size; rw [World.size_alloc] at this; exact this);have HB2:=qz (HB1.out.trans (hb2.mono HS1.out));have HLS2:=qz hls2
     clear HH1 hls2 hb2 HB1 HG1 HLS1 htin;go_wp2_with fail;refine HH2.out.mono ?_;rintro e w3 ⟨rfl,hb3⟩;have HS2:Hid (w.heap.size + 1<=w2.heap.size):=qz (by have:=HB2.out.size; rw [World.size_alloc] at this; exact this);have HB3:=qz (HB2.out.trans (hb3.mono HS2.out));have HG3:=qz (HG2.out.step hb3);clear HH2 hb3;go_wp2_with fail;go_roundw
     case rel => exact ⟨k + 1,_,_,_,by go_num,by omega,by rw [HCT.out]; exact HG3,by rw [HCT.out]; exact HH,HB3⟩
     case measure => simp [intOf]; omega
   ·
    rw [decide_eq_false hfin] at HH1;rw [if_neg (fun e => hfin ⟨e.1,e.2.1⟩),List.append_nil] at hct;have HCT:=qz hct;clear hct hfin;go_wp2_with fail;refine HH1.out.mono ?_;rintro e w2 ⟨rfl,hb2⟩
    have HS1:Hid (w.heap.size + 1<=(wr.alloc (.cells #[.int .i64 fi,.int .i64 ti] 146)).heap.size):=qz (by have:=HB1.out.size; rw [World.size_alloc] at this; exact this);have HB2:=qz (HB1.out.trans (hb2.mono HS1.out));have HG2:=qz (HG1.out.step hb2);clear HH1 hb2;go_wp2_with fail;go_roundw
    case rel => exact ⟨k + 1,_,_,_,by go_num,by omega,by rw [HCT.out]; exact HG2,by rw [HCT.out]; exact HH,HB2⟩
    case measure => simp [intOf]; omega
  ·
   obtain rfl:k = m:=by omega
   have i1:¬ (k:Int) < (k:Int):=by omega
   have hres:=HR0.out.below HB.out (by omega);have x0:=HG.out.box.cell 0;have x1:=HG.out.box.cell 1;have z0:=hres.cell 0;have z1:=hres.cell 1;have zf0:=hres.frozen 0;have zf1:=hres.frozen 1;have hln:l.take k = l:=List.take_of_length_le (by have:=HL.out; omega);rw [hln] at HG HH;have h3:=hres.set_ 0 (.slice (some ⟨E,0,none⟩) N N)
   have h4:=h3.set_ 1 (.slice (some ⟨I,0,none⟩) N N);have q0:=h4.cell 0;have q1:=h4.cell 1;have g0:=h4.frozen 0;have g1:=h4.frozen 1;have HQ:=qz hres;have hgb:gb≠w.heap.size:=fun e => by have:=HG.out.lb; omega
   have hEw:E≠w.heap.size:=fun e => by have:=HG.out.le; omega
   have hIw:I≠w.heap.size:=fun e => by have:=HG.out.li; omega
   have HFIN:Hid (Gr13 ((wr.setCell ⟨w.heap.size,0,none⟩ (.slice (some ⟨E,0,none⟩) N N)).setCell ⟨w.heap.size,1,none⟩ (.slice (some ⟨I,0,none⟩) N N)) wr.heap.size E I N (cut13 N l)):=qz (by
    have hgr:=HG.out.gr HH.out (fun p hp => cut13_lt hp) hN4 (by have h1:=cut13_len N l; have:=HL.out; omega);obtain ⟨es,k1,k2,k3⟩:=HG.out.ends;refine ⟨⟨es,(k1.far (by exact hEw) _).far (by exact hEw) _,k2,fun j hj => ⟨_,_,k3 j hj,?_⟩⟩,(hgr.into.far (by exact hIw) _).far (by exact hIw) _,hgr.eb,hgr.ib,hgr.part,hgr.most,hgr.many⟩;have h5:=HG.out.rows j hj
    have hne:(Value.slice (Af j) (outs (cut13 N l) j).length (cf j)).ownBlock≠some w.heap.size:=fun e => by have:=(h5.lt _ e).1; omega
    have h6:(wr.setCell ⟨w.heap.size,0,none⟩ (.slice (some ⟨E,0,none⟩) N N)).ownsRow (w.heap.size + 1) 3 1 (.slice (Af j) (outs (cut13 N l) j).length (cf j)) (outs (cut13 N l) j).length (ints (outs (cut13 N l) j)):=ownsRow_setCell_other h5 (by exact hne) _
    have h7:((wr.setCell ⟨w.heap.size,0,none⟩ (.slice (some ⟨E,0,none⟩) N N)).setCell ⟨w.heap.size,1,none⟩ (.slice (some ⟨I,0,none⟩) N N)).ownsRow (w.heap.size + 1) 3 1 (.slice (Af j) (outs (cut13 N l) j).length (cf j)) (outs (cut13 N l) j).length (ints (outs (cut13 N l) j)):=ownsRow_setCell_other h6 (by exact hne) _;have h8:=Rd.of_own h7
    rw [show ((wr.setCell ⟨w.heap.size,0,none⟩ (.slice (some ⟨E,0,none⟩) N N)).setCell ⟨w.heap.size,1,none⟩ (.slice (some ⟨I,0,none⟩) N N)).heap.size = wr.heap.size by simp [World.setCell]] at h8
    exact h8)
   have HBW:=qz (((HR1.out _ HB.out).setCell (p:=⟨w.heap.size,0,none⟩) (Nat.le_refl _) (.slice (some ⟨E,0,none⟩) N N)).setCell (p:=⟨w.heap.size,1,none⟩) (Nat.le_refl _) (.slice (some ⟨I,0,none⟩) N N));have HLE:=qz (And.intro HG.out.le HG.out.li);clear hres h3 h4 hln hgb hEw hIw;go_wp2_with fail;rw [HP.out]
   refine bodyPost_ret (v:=.agg #[.slice (some ⟨E,0,none⟩) N N,.slice (some ⟨I,0,none⟩) N N]) (by simp [results,Tryz.results118,go_sem,q0,q1,g0,g1]) rfl ⟨E,I,rfl,?_,by have:=HLE.out.1; omega,by have:=HLE.out.2; omega,HBW.out⟩
   rw [show ((wr.setCell ⟨w.heap.size,0,none⟩ (.slice (some ⟨E,0,none⟩) N N)).setCell ⟨w.heap.size,1,none⟩ (.slice (some ⟨I,0,none⟩) N N)).heap.size = wr.heap.size by simp [World.setCell]];exact HFIN.out
def un13 (m:Nat->Bool) (n:Nat):Nat:=(List.range n).countP (fun j => !m j)
theorem un13_mark {m:Nat->Bool} {n y:Nat} (hy:y < n) (h:m y = false):un13 (upd m y true) n + 1<=un13 m n :=
 countP13_lt (p:=fun j => !(upd m y true j)) (q:=fun j => !m j) (fun x _ hx => by
  by_cases e:x = y
  ·
   subst e;rw [upd_at] at hx;cases hx
  ·
   rw [upd_far _ _ e] at hx
   exact hx) (List.mem_range.2 hy) (by rw [h]; rfl) (by rw [upd_at]; rfl)
theorem un13_le (m:Nat->Bool) (n:Nat):un13 m n<=n:=by
 unfold un13;exact Nat.le_trans List.countP_le_length (by rw [List.length_range]; exact Nat.le_refl _)
def Bb13 (w:World) (g n:Nat) (m:Nat->Bool):Prop:=∃ cs:Array Value,Blk w g 4 cs/\cs.size = n/\∀ j,j < n->cs[j]? = some (.bool (m j))
theorem Bb13.cells {w:World} {g n k:Nat} {m:Nat->Bool} (q:Bb13 w g n m) (hk:k < n):w.cell? ⟨g,k,none⟩ = some (.bool (m k))/\w.frozen? ⟨g,k,none⟩ = false:=by
 obtain ⟨cs,h1,h2,h3⟩:=q;exact ⟨by rw [h1.cell]; exact h3 k hk,h1.frozen k⟩
theorem Bb13.put {w:World} {g n k:Nat} {m:Nat->Bool} (q:Bb13 w g n m) (hk:k < n) (x:Bool):Bb13 (w.setCell ⟨g,k,none⟩ (.bool x)) g n (upd m k x):=by
 obtain ⟨cs,h1,h2,h3⟩:=q;refine ⟨_,h1.set_ _ _,by simpa using h2,fun j hj => ?_⟩;by_cases h5:j = k
 ·
  subst h5;rw [upd_at,Array.getElem?_setIfInBounds_self_of_lt (by omega)]
 · rw [upd_far _ _ h5,Array.getElem?_setIfInBounds_ne (by omega),h3 j hj]
theorem Bb13.rv {w:World} {g n:Nat} {m T:Nat->Bool} (q:Bb13 w g n m) (hT:∀ j,m j = T j):Rv w w.heap.size (some ⟨g,0,none⟩) (bls T n):=fun _ => by
 obtain ⟨cs,h1,h2,h3⟩:=q;refine ⟨g,0,rfl,h1.lt,fun k v hk => ?_⟩
 have hkn:k < n:=by
  have:=(List.getElem?_eq_some_iff.1 hk).1;rw [bls_len] at this;exact this
 rw [bls_get T hkn] at hk;rw [Nat.zero_add,h1.cell,h3 k hkn,hT,hk]
theorem info_bool13:(Tryz.prog.info? 4).map (fun i => (i.zero,i.size,i.bytes)) = some (some (.bool false),1,1):=by kernel_rfl
theorem make_bools13 (n:Nat) (hn:n<=1000000) (W:World):(Instr.makeSlice 22 (.int .i64 (n:Int)) (.int .i64 (n:Int))).run Tryz.prog W =
  .ok (.slice (some ⟨W.heap.size,0,none⟩) n n) (W.alloc (.cells (madeCells #[.bool false] n) 4)):=by
 obtain ⟨i,hi,hzz⟩:=Option.map_eq_some_iff.1 info_bool13;simp only [Prod.mk.injEq] at hzz;obtain ⟨hz,hs,hb⟩:=hzz;have hr:=run_make (P:=Tryz.prog) W 22 4 i _ Tryz.underlying22 hi hz .i64 .i64 n n (by omega) (Int.le_refl _) (by rw [hb]; omega) (by omega);simp only [Int.toNat_natCast,hs,Value.cells,Nat.mul_one] at hr;exact hr
section
variable {W:World} {L gb go gs n:Nat} {G:Array Value} {m:Nat->Bool} {As:Option Addr} {ks cs:Nat} {xs:List Nat}
end
structure Bx13 (w:World) (gb:Nat) (G:Array Value) (W:World):Prop where
 below:Below w.heap.size w W
 box:Blk W gb 143 G
end
section
open Go.RowKit Go.Shelf
attribute [local go_sem] Oper.semAt_some
set_option maxRecDepth 100000
def fr13 (h:Nat->Nat) (n:Nat):Nat->List Nat
 | 0 => []
 | k + 1 => fr13 h n k ++ if h (n - 1 - k) = 0 then [n - 1 - k] else []
theorem fr13_mem {h:Nat->Nat} {n k j:Nat} (hk:k<=n):j∈fr13 h n k↔j < n/\n - k<=j/\h j = 0:=by
 induction k with
 | zero => simp [fr13]; omega
 | succ k ih =>
  rw [fr13,List.mem_append,ih (by omega)];by_cases h0:h (n - 1 - k) = 0
  ·
   rw [if_pos h0,List.mem_singleton];constructor
   ·
    rintro (⟨h1,h2,h3⟩ | rfl)
    · exact ⟨h1,by omega,h3⟩
    · exact ⟨by omega,by omega,h0⟩
   ·
    rintro ⟨h1,h2,h3⟩;rcases (show n - k<=j\/j = n - 1 - k by omega) with h4 | h4
    · exact .inl ⟨h1,h4,h3⟩
    · exact .inr h4
  ·
   rw [if_neg h0];constructor
   ·
    rintro (⟨h1,h2,h3⟩ | h)
    · exact ⟨h1,by omega,h3⟩
    · cases h
   ·
    rintro ⟨h1,h2,h3⟩;rcases (show n - k<=j\/j = n - 1 - k by omega) with h4 | h4
    · exact .inl ⟨h1,h4,h3⟩
    ·
     subst h4;exact absurd h3 h0
theorem fr13_fall {h:Nat->Nat} {n k:Nat} (hk:k<=n):Fall (fr13 h n k):=by
 induction k with
 | zero => exact List.Pairwise.nil
 | succ k ih =>
  unfold Fall;rw [fr13,List.pairwise_append];refine ⟨ih (by omega),?_,?_⟩
  ·
   split
   · exact List.pairwise_singleton _ _
   · exact List.Pairwise.nil
  ·
   intro a ha b hb;have h1:=(fr13_mem (by omega)).1 ha;split at hb
   ·
    rw [List.mem_singleton] at hb;omega
   · cases hb
theorem fr13_len (h:Nat->Nat) (n k:Nat):(fr13 h n k).length<=k:=by
 induction k with
 | zero => exact Nat.le_refl _
 | succ k ih =>
  rw [fr13,List.length_append];split <;> simp <;> omega
def benc13 (h:Nat->Nat) (N k:Nat):Array Value:=#[.int .i64 ((N - 1 - k:Nat):Int),.int .i64 ((h (N - 1 - k):Nat):Int)]
def bkeep13 (Bs I _:Nat) (p:Addr):Prop:=p.block = Bs\/p.block = I
theorem back13_goes (F:Fence) (n:Nat) (hf:F.fn 130) (hro:F.round = none) (hn:1<=n) (Bs I N c:Nat) (h:Nat->Nat) (w:World) (hi:Ib13 w I N h) (hN:N<=1000000)
  (hb:w.cell? ⟨Bs,0,none⟩ = some (.slice (some ⟨I,0,none⟩) N c)) :
  Goes F n Tryz.prog 130 #[.pointer (some ⟨Bs,0,none⟩)] (benc13 h N) (bkeep13 Bs I) N w:=fun l J Jx W hW _ _ hY h0 => by
 have hBs:=World.block_lt_of_cell? w _ hb;have hb1:=(hW.cell hBs).trans hb;have hi1:=hi.below hW hi.lt;clear hb hi;refine callsIn_of_wp Tryz.func130 rfl hf ?_ hro
 simp only [Tryz.ntmps130,List.size_toArray,List.length_cons,List.length_nil,Nat.reduceAdd,Nat.reduceSub,Array.replicate_succ,Array.replicate_zero,List.push_toArray,List.append_toArray,List.nil_append,List.cons_append];gi_wp2
 gi_loopw [3] (fun i wr => ∃ (m:Nat) (j:Int),i = .int .i64 j/\j + 1 = (m:Int)/\m<=N/\J (N - m) wr/\wr.cell? ⟨Bs,0,none⟩ = some (.slice (some ⟨I,0,none⟩) N c)/\Hid (∀ t,t < N->wr.cell? ⟨I,t,none⟩ = some (.int .i64 ((h t:Nat):Int))))
  (fun i _ => (intOf i + 1).toNat)
 case atStart =>
  exact ⟨N,_,rfl,by omega,Nat.le_refl _,by rw [Nat.sub_self]; exact h0,hb1,qz (fun t ht => (hi1.cells ht).1)⟩
 case round =>
  obtain ⟨m,j,rfl,hj,hm,hJ,hbx,HC⟩:=hrel;by_cases hpos:0 < m
  ·
   obtain ⟨q,rfl⟩:∃ q,m = q + 1:=⟨m - 1,by omega⟩
   obtain rfl:j = (q:Int):=by omega
   have hcx:=HC.out q (by omega);have hq0:(0:Int)<=(q:Int):=by omega
   have hq1:(q:Int) < (N:Int):=by omega
   obtain ⟨fn,tmps,assign,body,hy,hR⟩:=hY (N - (q + 1)) wr (by omega) hJ;have he:N - 1 - (N - (q + 1)) = q:=by omega
   simp only [benc13,he] at hy;clear he;gi_wp2;refine hR.mono ?_;rintro e W3 (⟨rfl,hJ3,hk3⟩ | ⟨rfl,hJx3⟩)
   ·
    have HS:Hid (Same (bkeep13 Bs I (N - (q + 1))) wr W3):=qz hk3;have HJ:=qz hJ3;clear hk3 hJ3 hJ;gi_wp2;go_roundw
    case rel =>
     exact ⟨q,_,rfl,by omega,by omega,by have:=HJ.out; rwa [show N - (q + 1) + 1 = N - q by omega] at this,HS.out.cell _ _ (.inl rfl) hbx,qz (fun t ht => HS.out.cell _ _ (.inr rfl) (HC.out t ht))⟩
    case measure => first | (simp [intOf]; done) | (simp [intOf]; omega)
   ·
    gi_wp2;refine bodyPost_ret (results_none rfl _ _ _) rfl ?_;exact ⟨⟨_,rfl⟩,.inr ⟨_,by omega,hJx3⟩⟩
  ·
   obtain rfl:m = 0:=by omega
   obtain rfl:j = -1:=by omega
   have HJ:Hid (J N wr):=qz (by simpa using hJ);clear hJ;gi_wp2
   go_end0
   exact ⟨⟨_,rfl⟩,.inl HJ.out⟩
theorem back13_calls (A:Option Addr) (N c:Nat) (w:World) :
  Calls Tryz.prog 116 #[.slice A N c] w fun e w' => e = .returned (.func (.func 130) #[] #[.pointer (some ⟨w.heap.size,0,none⟩)])/\w' = w.alloc (.cells #[.slice A N c] 26):=by
 have hmf:∀ (fn:Fn) (first cap:Array Value) (w:World),(Instr.makeFunc fn first cap).run Tryz.prog w = .ok (.func fn first cap) w:=fun _ _ _ _ => rfl
 go_enter Tryz.func116,Tryz.ntmps116;go_wp2_with fail;go_ret;exact ⟨rfl,rfl⟩
theorem free13_any {E I n:Nat} {A:List (Nat × Nat)} (w:World) (h:Gr13 w w.heap.size E I n A) :
  Calls Tryz.prog 133 #[gv13 E I n] w (RetI w (fr13 (rem13 A []) n n)):=by
 have hn:=h.most;have hIb:=h.ib;have HG:=qz h;obtain ⟨hh,hhe⟩:=exq (rem13 A []);have HI:Hid (Ib13 w I n hh):=qz (by rw [<- hhe]; exact h.into);rw [hhe]
 have HP:Hid (RetI w (fr13 hh n n) = fun e w' => ∃ A c,e = .returned (.slice A (fr13 hh n n).length c)/\w'.ownsRow w.heap.size 3 1 (.slice A (fr13 hh n n).length c) (fr13 hh n n).length (ints (fr13 hh n n))/\Below w.heap.size w w'):=qz rfl
 have hbx:=(Blk.new w 143 #[.slice (some ⟨E,0,none⟩) n n,.slice (some ⟨I,0,none⟩) n n]).alloc (.cells #[.slice none 0 0] 26);have c1:=hbx.cell 1;have HA:=qz (fun W => back13_calls (some ⟨I,0,none⟩) n n W);unfold gv13;clear h hhe hbx;refine calls_of_leave Tryz.func133 rfl ?_
 simp only [Tryz.ntmps133,List.size_toArray,List.length_cons,List.length_nil,Nat.reduceAdd,Nat.reduceSub,Array.replicate_succ,Array.replicate_zero,List.push_toArray,List.append_toArray,List.nil_append,List.cons_append];go_wp2_with fail;refine (HA.out _).mono ?_;rintro e W0 ⟨rfl,hW0⟩;have hsz0:W0.heap.size = w.heap.size + 1 + 1 + 1:=by rw [hW0]; simp
 have hb0:Below w.heap.size w W0:=by rw [hW0]; exact ((b1' w _).trans ((b1' _ _).mono (by simp))).trans ((b1' _ _).mono (by simp; omega))
 have f3:Blk W0 (w.heap.size + 1) 26 #[.slice none 0 0]:=by
  rw [hW0];have h2:=(Blk.new (w.alloc (.cells #[.slice (some ⟨E,0,none⟩) n n,.slice (some ⟨I,0,none⟩) n n] 143)) 26 #[.slice none 0 0]).alloc (.cells #[.slice (some ⟨I,0,none⟩) n n] 26);rw [World.size_alloc] at h2;exact h2
 have f2:W0.cell? ⟨w.heap.size + 1 + 1,0,none⟩ = some (.slice (some ⟨I,0,none⟩) n n):=by
  rw [hW0];have h2:=(Blk.new ((w.alloc (.cells #[.slice (some ⟨E,0,none⟩) n n,.slice (some ⟨I,0,none⟩) n n] 143)).alloc (.cells #[.slice none 0 0] 26)) 26 #[.slice (some ⟨I,0,none⟩) n n]).cell 0;rw [World.size_alloc,World.size_alloc] at h2;exact h2
 have hgo:=back13_goes Fence.wide 4 trivial rfl (by omega) (w.heap.size + 1 + 1) I n n hh W0 (HI.out.below hb0 hIb) (by omega) f2;have HI0:Hid (RowMem w (w.heap.size + 1) (w.heap.size + 3) (fr13 hh n 0) W0):=qz ⟨hb0,by omega,none,0,f3,World.ownsRow_nil _ _ _ _⟩;clear f2 f3 hb0 hW0 c1;go_wp2_with fail;refine (wpIn_wide (n:=5)).1 ?_
 refine wpIn_rangeFunc_goes rfl (by omega) (gf:=130) (lb:=#[.pointer (some ⟨w.heap.size + 1 + 1,0,none⟩)]) rfl trivial (enters_of Tryz.func130 (by kernel_rfl) rfl)
  hgo (fun k p hp => by show p.block < W0.heap.size; rcases hp with h | h <;> omega) (Below.refl _ _) (fun _ => rfl)
  (fun k W => RowMem w (w.heap.size + 1) (w.heap.size + 3) (fr13 hh n k) W)
  (fun c k W => False)
  (fun s X Y row hs hg hr => hs.kept hg (by omega) hr)
  (fun c s X Y row hs hg hr => hs.elim)
  HI0.out ?round ?done ?stop
 case round =>
  intro l k W hk _;simp only [benc13];gi_wp2;refine ⟨trivial,?_⟩;intro Wb hm;obtain ⟨A5,c5,hb5,hown5⟩:=hm.row;obtain ⟨m,hlm⟩:=exq ((fr13 hh n k).length);have hml:=fr13_len hh n k;rw [hlm] at hb5 hown5 hml;have c1:=hb5.cell 0;have f1:=hb5.frozen 0;have HM:=qz hm;have HB5:=qz hb5;have HO5:=qz hown5;have HBS:=hm.bsz;have HLM:=qz hlm
  obtain ⟨x,hx⟩:=exq (n - 1 - k);have hnx:fr13 hh n (k + 1) = fr13 hh n k ++ if hh x = 0 then [x] else []:=by rw [fr13,hx]
  rw [hx];clear hm hb5 hown5 hlm;by_cases hz:hh x = 0
  ·
   have HNX:Hid (fr13 hh n (k + 1) = fr13 hh n k ++ [x]):=qz (by rw [hnx,if_pos hz]);rw [hz];clear hnx hz hx
   gi_wp2_with (gi_at_builtin; refine wpListIn_append_11 _ rfl (.tmp 13) (.tmp 15) 26 rfl (w.heap.size + 3) 3 Tryz.underlying26 (.int .i64 0) 8 info_int11 rfl (.slice A5 m c5) m _ rfl (own7_keep HO5.out (b1' _ _)) _ (.int .i64 (x:Int)) rfl ((Blk.new _ _ _).cell 0) rfl (by omega) (by omega) (by simp; omega) ?_);intro A6 c6 W6 hc6 h6 hg6
   obtain ⟨hn1,hn2,hn3,hn4⟩:=HM.out.next (by omega) (by omega) HLM.out HB5.out HO5.out hg6 h6.out;have c6':=hn2.cell 0;have f6':=hn2.frozen 0;have HN1:=qz hn1;have HN3:=qz hn3;have HSM:Hid (Same (bkeep13 (w.heap.size + 1 + 1) I k) Wb W6):=qz (Same.of_below hn4 (fun p hp => by rcases hp with h | h <;> omega));clear hn1 hn2 hn3 hn4 h6 hg6;gi_wp2_with fail
   refine ⟨(HN3.out.trans (KeepsOthers.setCell _ _ _)).from _,HSM.out.trans (Same.setCell (fun p hp e => ?_) _),?_⟩
   ·
    simp only at e;rcases hp with h | h <;> omega
   ·
    show RowMem w _ _ (fr13 hh n (k + 1)) _;rw [HNX.out];exact HN1.out
  ·
   have HNX:Hid (fr13 hh n (k + 1) = fr13 hh n k):=qz (by rw [hnx,if_neg hz,List.append_nil]);have hz2:¬ ((hh x:Nat):Int) = 0:=by omega
   obtain ⟨y,hy⟩:=exq (hh x);rw [hy] at hz2 ⊢;clear hnx hz hx hy;gi_wp2_with fail;refine ⟨(KeepsOthers.refl _).from _,Same.refl _ _,?_⟩;show RowMem w _ _ (fr13 hh n (k + 1)) _;rw [HNX.out];exact HM.out
 case done =>
  rintro D W hD hm hK;obtain ⟨A5,c5,hb5,hown5⟩:=hm.row;have c1:=hb5.cell 0;have HB:=qz (mark_below hm.below hK (by omega));have HO:=qz (own11_kept hown5 (grownBy_putObj' _ D (.deferred none)) (fun r e => by cases e; exact ⟨_,hK,rfl⟩));have HK:=qz hK;obtain ⟨m,hlm⟩:=exq ((fr13 hh n n).length);rw [hlm] at c1 HO HP;clear hm hK hb5 hown5 hlm;go_wp2_with fail
  rw [HP.out];exact leave_mark (v:=.slice A5 m c5) HK.out (by simp [results,Tryz.results133,go_sem]) ⟨A5,c5,rfl,own7_base HO.out (by omega),HB.out⟩
 case stop =>
  rintro D c k W hD hk h hK;exact h.elim
end
end Go.Proofs.YtkdmnlihpebbkaaGreat
