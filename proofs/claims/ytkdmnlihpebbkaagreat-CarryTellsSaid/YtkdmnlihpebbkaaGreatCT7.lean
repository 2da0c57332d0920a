import Derived.Test.YtkdmnlihpebbkaaGreatCT6
import Derived.Sort.OwnSortedInts
set_option linter.all false
set_option maxHeartbeats 8000000
namespace Go.Proofs.YtkdmnlihpebbkaaGreat
section
open Go.RowKit
set_option maxRecDepth 100000
structure Kn13 (A:List (Nat × Nat)) (n:Nat) (told:List Nat) (left:Nat->Nat) (xs todo:List Nat):Prop where
 tld:Told13 A n told
 lft:∀ j,j < n->left j = rem13 A told j + todo.countP (fun x => x == j)
 fall:Fall xs
 mem:∀ j,j∈xs↔j < n/\j ∉ told/\left j = 0
 new:∀ j,j∈todo->j ∉ told
theorem Kn13.start (A:List (Nat × Nat)) (n:Nat):Kn13 A n [] (rem13 A []) (fr13 (rem13 A []) n n) [] :=
 ⟨.nil,fun j _ => rfl,fr13_fall (Nat.le_refl _),fun j => by
  rw [fr13_mem (Nat.le_refl _)];constructor
  ·
   rintro ⟨h1,_,h3⟩;exact ⟨h1,by simp,h3⟩
  ·
   rintro ⟨h1,_,h3⟩
   exact ⟨h1,by omega,h3⟩,fun j h => by cases h⟩
theorem Fall.last {xs:List Nat} {i:Nat} (h:Fall (xs ++ [i])):Fall xs/\∀ j,j∈xs->i < j:=by
 unfold Fall at h;rw [List.pairwise_append] at h;exact ⟨h.1,fun j hj => h.2.2 j hj i (by simp)⟩
theorem Kn13.pop {A:List (Nat × Nat)} {n i:Nat} {told xs:List Nat} {left:Nat->Nat} (h:Kn13 A n told left (xs ++ [i]) []):Kn13 A n (told ++ [i]) left xs (outs A i)/\i < n:=by
 obtain ⟨hf1,hf2⟩:=h.fall.last;obtain ⟨i1,i2,i3⟩:=(h.mem i).1 (by simp);have hl:∀ j,j < n->left j = rem13 A told j:=fun j hj => by have:=h.lft j hj; simpa using this
 have hfre:Fre13 A n told i:=⟨i1,i2,rem13_zero.1 (by rw [<- hl i i1]; exact i3)⟩
 refine ⟨⟨.next h.tld hfre (fun j hj hfj => ?_),fun j hj => ?_,hf1,fun j => ?_,fun j hj => ?_⟩,i1⟩
 ·
  have h1:j∈xs ++ [i]:=(h.mem j).2 ⟨hfj.1,hfj.2.1,by rw [hl j hfj.1]; exact rem13_zero.2 hfj.2.2⟩;rw [List.mem_append,List.mem_singleton] at h1;rcases h1 with h1 | h1
  ·
   have:=hf2 j h1;omega
  · omega
 ·
  rw [hl j hj];exact rem13_told i2
 ·
  rw [List.mem_append,List.mem_singleton];constructor
  ·
   intro hj;obtain ⟨h1,h2,h3⟩:=(h.mem j).1 (by simp [hj]);have h4:=hf2 j hj;exact ⟨h1,fun e => by rcases e with e | e; exact h2 e; omega,h3⟩
  ·
   rintro ⟨h1,h2,h3⟩;have h4:=(h.mem j).2 ⟨h1,fun e => h2 (.inl e),h3⟩;rw [List.mem_append,List.mem_singleton] at h4;rcases h4 with h4 | h4
   · exact h4
   · exact absurd (.inr h4) h2
 ·
  have hij:=outs_mem.1 hj;rw [List.mem_append,List.mem_singleton];rintro (h1 | rfl)
  · exact i2 (h.tld.before i j hij h1)
  · exact i2 (hfre.2.2 j hij)
theorem Kn13.dec {A:List (Nat × Nat)} {n j x:Nat} {told xs todo:List Nat} {left:Nat->Nat} (h:Kn13 A n told left xs (j :: todo)) (hj:j < n) (hx:x + 1 = left j) (h0:x≠0):Kn13 A n told (upd left j x) xs todo:=by
 refine ⟨h.tld,fun k hk => ?_,h.fall,fun k => ?_,fun k hk => h.new k (by simp [hk])⟩
 ·
  have h1:=h.lft k hk;rw [List.countP_cons] at h1;by_cases e:k = j
  ·
   subst e;rw [upd_at];simp at h1;omega
  ·
   rw [upd_far _ _ e];rw [if_neg (by simp; exact fun e2 => e e2.symm)] at h1;omega
 ·
  rw [h.mem k];by_cases e:k = j
  ·
   subst e;rw [upd_at];constructor
   ·
    rintro ⟨_,_,h3⟩;omega
   ·
    rintro ⟨_,_,h3⟩;omega
  · rw [upd_far _ _ e]
theorem Kn13.not_in {A:List (Nat × Nat)} {n j x:Nat} {told xs todo:List Nat} {left:Nat->Nat} (h:Kn13 A n told left xs todo) (hx:x + 1 = left j):j ∉ xs:=fun hj => by
 have:=((h.mem j).1 hj).2.2;omega
theorem Kn13.put {A:List (Nat × Nat)} {n j p:Nat} {told xs todo:List Nat} {left:Nat->Nat} (h:Kn13 A n told left xs (j :: todo)) (hj:j < n) (hx:0 + 1 = left j) (hp:Plc xs j p):Kn13 A n told (upd left j 0) (ins13 xs p j) todo:=by
 refine ⟨h.tld,fun k hk => ?_,hp.fall h.fall,fun k => ?_,fun k hk => h.new k (by simp [hk])⟩
 ·
  have h1:=h.lft k hk;rw [List.countP_cons] at h1;by_cases e:k = j
  ·
   subst e;rw [upd_at];simp at h1;omega
  ·
   rw [upd_far _ _ e];rw [if_neg (by simp; exact fun e2 => e e2.symm)] at h1;omega
 ·
  rw [ins13_mem,h.mem k];by_cases e:k = j
  ·
   subst e;rw [upd_at];constructor
   ·
    intro _;exact ⟨hj,h.new k (by simp),rfl⟩
   ·
    intro _;exact .inl rfl
  ·
   rw [upd_far _ _ e];constructor
   ·
    rintro (h1 | h1)
    · exact absurd h1 e
    · exact h1
   · exact .inr
theorem Kn13.end_ {A:List (Nat × Nat)} {n:Nat} {told:List Nat} {left:Nat->Nat} (h:Kn13 A n told left [] []):Done13 A n told :=
 ⟨h.tld,fun i hi => by
  have h1:=h.lft i hi.1;rw [rem13_zero.2 hi.2.2] at h1;have h2:=(h.mem i).2 ⟨hi.1,hi.2.1,h1⟩
  cases h2⟩
theorem Kn13.low {A:List (Nat × Nat)} {n j:Nat} {told xs todo:List Nat} {left:Nat->Nat} (h:Kn13 A n told left xs (j :: todo)) (hj:j < n):∃ x,x + 1 = left j:=by
 have h1:=h.lft j hj;rw [List.countP_cons] at h1;simp at h1;exact ⟨left j - 1,by omega⟩
theorem Fall.len {xs:List Nat} {n:Nat} (h:Fall xs) (hn:∀ x,x∈xs->x < n):xs.length<=n :=
 nodup13_len n xs (List.Pairwise.imp (fun hab => by omega) h) hn
theorem Kn13.len {A:List (Nat × Nat)} {n:Nat} {told xs todo:List Nat} {left:Nat->Nat} (h:Kn13 A n told left xs todo):xs.length<=n:=h.fall.len (fun x hx => ((h.mem x).1 hx).1)
theorem drop_nth13 {xs:List Nat} {p:Nat} (h:p < xs.length):xs.drop p = nth xs p :: xs.drop (p + 1):=by
 rw [List.drop_eq_getElem_cons h,nth_in h]
structure Od13 (W:World) (L gb gs gl n:Nat) (G:Array Value) (left:Nat->Nat) (As:Option Addr) (ks cs:Nat) (xs:List Nat) (Ao:Option Addr) (ko co:Nat) (os:List Nat):Prop where
 box:Blk W gb 143 G
 var:Blk W gs 26 #[.slice As ks cs]
 left:Ib13 W gl n left
 lx:xs.length = ks
 lo:os.length = ko
 stk:W.ownsRow L 3 1 (.slice As ks cs) ks (ints xs)
 out:W.ownsRow L 3 1 (.slice Ao ko co) ko (ints os)
 two:∀ r,ob As = some r->ob Ao≠some r
 sl:ob As≠some gl
 ol:ob Ao≠some gl
 lb:L<=gb
 ls:L<=gs
 ll:L<=gl
section
variable {W:World} {L gb gs gl n:Nat} {G:Array Value} {left:Nat->Nat} {As:Option Addr} {ks cs:Nat} {xs:List Nat} {Ao:Option Addr} {ko co:Nat} {os:List Nat}
theorem Od13.step {W':World} (b:Od13 W L gb gs gl n G left As ks cs xs Ao ko co os) (hb:Below W.heap.size W W'):Od13 W' L gb gs gl n G left As ks cs xs Ao ko co os :=
 ⟨b.box.below hb b.box.lt,b.var.below hb b.var.lt,b.left.below hb b.left.lt,b.lx,b.lo,own7_keep b.stk hb,own7_keep b.out hb,b.two,b.sl,b.ol,b.lb,b.ls,b.ll⟩
theorem Od13.nbs (b:Od13 W L gb gs gl n G left As ks cs xs Ao ko co os):gb≠gs:=blk_ne12 b.box b.var (by decide)
theorem Od13.nbl (b:Od13 W L gb gs gl n G left As ks cs xs Ao ko co os):gb≠gl:=by
 obtain ⟨es,h1,_⟩:=b.left;exact blk_ne12 b.box h1 (by decide)
theorem Od13.nsl (b:Od13 W L gb gs gl n G left As ks cs xs Ao ko co os):gs≠gl:=by
 obtain ⟨es,h1,_⟩:=b.left;exact blk_ne12 b.var h1 (by decide)
theorem Od13.pop {r i k:Nat} (b:Od13 W L gb gs gl n G left (some ⟨r,0,none⟩) (k + 1) cs (xs ++ [i]) Ao ko co os):Od13 (W.setCell ⟨gs,0,none⟩ (.slice (some ⟨r,0,none⟩) k cs)) L gb gs gl n G left (some ⟨r,0,none⟩) k cs xs Ao ko co os:=by
 have hl:xs.length = k:=by have:=b.lx; simpa using this
 have h3:=b.stk;rw [ints_append] at h3;have h4:=ownsRow_pop (by rw [ints_length,hl,Nat.mul_one]) h3
 exact ⟨b.box.far (by exact b.nbs) _,by simpa using b.var.set_ 0 (.slice (some ⟨r,0,none⟩) k cs),b.left.far (by exact fun e => b.nsl e.symm) _,hl,b.lo,ownsRow_setCell_other h4 (by exact own7_ne h4 b.var (by decide)) _,ownsRow_setCell_other b.out (by exact own7_ne b.out b.var (by decide)) _,b.two,b.sl,b.ol,b.lb,b.ls,b.ll⟩
theorem Od13.cut (b:Od13 W L gb gs gl n G left As ks cs xs Ao ko co os) {j:Nat} (hj:j < n) (x:Nat):Od13 (W.setCell ⟨gl,j,none⟩ (.int .i64 (x:Int))) L gb gs gl n G (upd left j x) As ks cs xs Ao ko co os :=
 ⟨b.box.far (by exact b.nbl) _,b.var.far (by exact b.nsl) _,b.left.put hj x,b.lx,b.lo,ownsRow_setCell_other b.stk (by rw [ob_eq]; exact b.sl) _,ownsRow_setCell_other b.out (by rw [ob_eq]; exact b.ol) _,b.two,b.sl,b.ol,b.lb,b.ls,b.ll⟩
theorem Od13.tell {W3:World} {A':Option Addr} {c' i:Nat} (b:Od13 W L gb gs gl n G left As ks cs xs Ao ko co os) (hL:L<=W.heap.size) (hg:(W.alloc (.cells #[.int .i64 (i:Int)] 3)).grownBy W3 (Value.slice Ao ko co).ownBlock)
  (hown:W3.ownsRow L 3 1 (.slice A' (ko + 1) c') (ko + 1) (ints os ++ ints [i]))
  (hbl:(Value.slice A' (ko + 1) c').ownBlock = (Value.slice Ao ko co).ownBlock\/(Value.slice A' (ko + 1) c').ownBlock = some (W.alloc (.cells #[.int .i64 (i:Int)] 3)).heap.size) :
  Od13 W3 L gb gs gl n G left As ks cs xs A' (ko + 1) c' (os ++ [i])/\Below L W W3:=by
 have b1:=b.step (b1' W (.cells #[.int .i64 (i:Int)] 3));rw [ob_eq,ob_eq] at hbl
 have hnew:∀ r,ob A' = some r->ob Ao = some r\/W.heap.size < r:=fun r hr => by
  rcases hbl with h5 | h5
  · exact .inl (by rw [<- h5]; exact hr)
  ·
   right;rw [h5] at hr;injection hr with hr
   simp at hr;omega
 refine ⟨⟨b1.box.grown hg (fun e => own7_ne b1.out b1.box (by decide) e.symm),b1.var.grown hg (fun e => own7_ne b1.out b1.var (by decide) e.symm),b1.left.grown hg (fun e => b1.ol (by rw [<- ob_eq Ao ko co]; exact e.symm)),b.lx,by simp [b.lo],own12_far b1.stk hg (fun r hr e => b.two r (by rw [<- ob_eq As ks cs]; exact e) (by rw [<- ob_eq Ao ko co]; exact hr)),by rw [ints_append]; exact hown,fun r hr h6 => ?_,b.sl,fun h6 => ?_,b.lb,b.ls,b.ll⟩,
  ((b1' W _).mono hL).grown hg (by simp; omega) (fun r hr => (b1.out.lt r hr).1)⟩
 ·
  rcases hnew r h6 with h7 | h7
  · exact b.two r hr h7
  ·
   have:=(b.stk.lt r (by rw [ob_eq]; exact hr)).2;omega
 ·
  rcases hnew gl h6 with h7 | h7
  · exact b.ol h7
  ·
   have:=b.left.lt;omega
theorem Od13.put {W':World} {A':Option Addr} {c':Nat} {ys:List Nat} (b:Od13 W L gb gs gl n G left As ks cs xs Ao ko co os)
  (h1:Blk W' gs 26 #[.slice A' ys.length c']) (h2:W'.ownsRow L 3 1 (.slice A' ys.length c') ys.length (ints ys)) (h3:∀ r,(Value.slice A' ys.length c').ownBlock = some r->(Value.slice As ks cs).ownBlock = some r\/W.heap.size<=r) (h4:Bk13 L gs (Value.slice As ks cs).ownBlock W W') :
  Od13 W' L gb gs gl n G left A' ys.length c' ys Ao ko co os:=by
 obtain ⟨es,k1,k2⟩:=b.left
 refine ⟨h4.blk b.box b.nbs (fun e => own7_ne b.stk b.box (by decide) e.symm),h1,⟨es,h4.blk k1 (fun e => b.nsl e.symm) (fun e => b.sl (by rw [<- ob_eq As ks cs]; exact e.symm)),k2⟩,rfl,b.lo,h2,h4.own b.out (own7_ne b.out b.var (by decide)) (fun r hr e => b.two r (by rw [<- ob_eq As ks cs]; exact e) (by rw [<- ob_eq Ao ko co]; exact hr)),fun r hr h6 => ?_,fun h6 => ?_,b.ol,b.lb,b.ls,b.ll⟩
 ·
  rcases h3 r (by rw [ob_eq]; exact hr) with h7 | h7
  · exact b.two r (by rw [<- ob_eq As ks cs]; exact h7) h6
  ·
   have:=(b.out.lt r (by rw [ob_eq]; exact h6)).2;omega
 ·
  rcases h3 gl (by rw [ob_eq]; exact h6) with h7 | h7
  · exact b.sl (by rw [<- ob_eq As ks cs]; exact h7)
  ·
   have:=b.left.lt;omega
end
theorem Gr13.up {w W:World} {E I n:Nat} {A:List (Nat × Nat)} (h:Gr13 w w.heap.size E I n A) (hb:Below w.heap.size w W):Gr13 W W.heap.size E I n A:=by
 have h0:=h.below hb (Nat.le_refl _);obtain ⟨es,h1,h2,h3⟩:=h0.ends;have:=hb.size;refine ⟨⟨es,h1,h2,fun k hk => ?_⟩,h0.into,by have:=h.eb; omega,by have:=h.ib; omega,h.part,h.most,h.many⟩;obtain ⟨Ak,ck,h4,h5⟩:=h3 k hk;exact ⟨Ak,ck,h4,h5.more this⟩
def lenOf13:Value->Nat
 | .slice _ k _ => k
 | _ => 0
def lst13 (h:Nat->Nat) (n:Nat):List Nat:=(List.range n).map h
theorem lst13_len (h:Nat->Nat) (n:Nat):(lst13 h n).length = n:=by simp [lst13]
theorem lst13_nth {h:Nat->Nat} {n j:Nat} (hj:j < n):nth (lst13 h n) j = h j:=by simp [lst13,nth,hj]
def RetO13 (w:World) (n:Nat) (os:List Nat) (e:Ending) (w':World):Prop :=
 ∃ v,e = .returned (.tuple #[v,.bool (decide (os.length = n))])/\(os.length = n->∃ A c,v = .slice A os.length c/\w'.ownsRow w.heap.size 3 1 (.slice A os.length c) os.length (ints os))/\(¬ os.length = n->v = .slice none 0 0)/\Below w.heap.size w w'
theorem Ib13.rd2 {w:World} {g n:Nat} {xs:List Nat} {h:Nat->Nat} (q:Ib13 w g n h) (hl:xs.length = n) (hx:∀ j,j < n->nth xs j = h j):Rd w w.heap.size (some ⟨g,0,none⟩) xs:=by
 subst hl;exact q.rd hx
theorem Bx13.step {w W W':World} {gb:Nat} {G:Array Value} (h:Bx13 w gb G W) (hb:Below W.heap.size W W'):Bx13 w gb G W':=⟨h.below.trans (hb.mono h.below.size),h.box.below hb h.box.lt⟩
theorem Bx13.set {w W:World} {gb:Nat} {G:Array Value} (h:Bx13 w gb G W) {p:Addr} (hp:w.heap.size<=p.block) (hg:gb≠p.block) (u:Value):Bx13 w gb G (W.setCell p u):=⟨h.below.setCell hp u,h.box.far hg u⟩
theorem order13_any {E I n:Nat} {A:List (Nat × Nat)} {os:List Nat} (w:World) (h:Gr13 w w.heap.size E I n A) (hd:Done13 A n os) :
  Calls Tryz.prog 119 #[gv13 E I n] w (RetO13 w n os):=by
 have HP:Hid (RetO13 w n os = fun e w' => ∃ v,e = .returned (.tuple #[v,.bool (decide (os.length = n))])/\(os.length = n->∃ A c,v = .slice A os.length c/\w'.ownsRow w.heap.size 3 1 (.slice A os.length c) os.length (ints os))/\(¬ os.length = n->v = .slice none 0 0)/\Below w.heap.size w w'):=qz rfl;have HGR:=qz h;have HD:=qz hd;have hn:=h.most;have hmany:=h.many
 have hbx:=Blk.new w 143 #[.slice (some ⟨E,0,none⟩) n n,.slice (some ⟨I,0,none⟩) n n];have HB:Hid (Below w.heap.size w (w.alloc (.cells #[.slice (some ⟨E,0,none⟩) n n,.slice (some ⟨I,0,none⟩) n n] 143)).drew):=qz (b1' w _).drew
 have HBS:Hid (Bx13 w w.heap.size #[.slice (some ⟨E,0,none⟩) n n,.slice (some ⟨I,0,none⟩) n n] (w.alloc (.cells #[.slice (some ⟨E,0,none⟩) n n,.slice (some ⟨I,0,none⟩) n n] 143)).drew):=qz ⟨HB.out,hbx⟩;obtain ⟨wn,hwn⟩:=exq ((w.alloc (.cells #[.slice (some ⟨E,0,none⟩) n n,.slice (some ⟨I,0,none⟩) n n] 143)).drew);rw [hwn] at HB HBS;unfold gv13;clear h hd hbx
 go_enter Tryz.func119,Tryz.ntmps119;go_upto_region 1 with (fail)
 go_cut [4,5] (fun u v wx => ∃ (gs gl cl:Nat) (As:Option Addr) (cs:Nat),u = .pointer (some ⟨gs,0,none⟩)/\v = .slice (some ⟨gl,0,none⟩) n cl/\Hid (Od13 wx w.heap.size w.heap.size gs gl n #[.slice (some ⟨E,0,none⟩) n n,.slice (some ⟨I,0,none⟩) n n] (rem13 A []) As (fr13 (rem13 A []) n n).length cs (fr13 (rem13 A []) n n) none 0 0 [])/\Hid (Below w.heap.size w wx))
 case first =>
  refine wp_region_held_drew (S:=Bx13 w w.heap.size #[.slice (some ⟨E,0,none⟩) n n,.slice (some ⟨I,0,none⟩) n n]) (by kernel_rfl) (by rw [hwn]; exact HBS.out) (fun hHeld => ?_);rw [hwn] at hHeld ⊢;clear hwn;refine tk 0 (v:=?_) (fun W hS => ?_) ?_;rotate_left
  ·
   try try dsimp only at hS
   have z0:=hS.box.cell 0;have z1:=hS.box.cell 1;go_simp
   try with_reducible rfl
  try simp only [Act.put,pt1,pt2,pt3]
  refine tkq 2 ?_;refine tk 3 (v:=?_) (fun W hS => ?_) ?_;rotate_left
  ·
   try try dsimp only at hS
   have z0:=hS.box.cell 1;go_simp
   try with_reducible rfl
  try simp only [Act.put,pt1,pt2,pt3]
  refine wpAnyH_ready (rs:=[1,5]) (by kernel_rfl) (by simp) (AllReadyH.cons (op_of rfl) (fun K hK => ?_) (AllReadyH.cons (op_of rfl) (fun K hK => ?_) AllReadyH.nil))
  ·
   skip;have HSZwn:Hid (w.heap.size<=wn.heap.size):=qz HB.out.size;go_simp;refine (free13_any wn (HGR.out.up HB.out)).mono ?_;rintro en wa ⟨As,cs,rfl,ho,hb⟩;have HST:=qz (own7_base ho HB.out.size);clear ho;have HB:=qz (HB.out.trans (hb.mono HB.out.size));have HBS:=qz (HBS.out.step hb);clear hb;refine koq hK HBS.out (fun hHeld=>?_);clear hK K
   refine wpAnyH_ready (rs:=[4,5]) (by kernel_rfl) (by simp) (AllReadyH.cons (op_of rfl) (fun K hK => ?_) (AllReadyH.cons (op_of rfl) (fun K hK => ?_) AllReadyH.nil))
   ·
    skip;have HSZwa:Hid (w.heap.size<=wa.heap.size):=qz HB.out.size;go_simp;refine (clone13_any I n n (lst13 (rem13 A []) n) wa (lst13_len _ _) ((HGR.out.up HB.out).into.rd2 (lst13_len _ _) (fun j hj => lst13_nth hj)) (by omega)).mono ?_;rintro en wb ⟨gl,cl,rfl,hgl,hil,hb⟩;rw [lst13_len] at hil
    have HIL:Hid (Ib13 wb gl n (rem13 A [])):=qz (hil.congr (fun j hj => lst13_nth hj));have HGL:=qz hgl;have HTL:Hid (∀ r,(Value.slice As (fr13 (rem13 A []) n n).length cs).ownBlock = some r->r < gl):=qz (fun r hr => by have:=(HST.out.lt r hr).2; omega);have HST:=qz (own7_keep HST.out hb);clear hgl hil;have HB:=qz (HB.out.trans (hb.mono HB.out.size))
    have HBS:=qz (HBS.out.step hb);clear hb;refine koq hK HBS.out (fun hHeld=>?_);clear hK K;refine rdy 5 (fun K hK => ?_);have HSZwb:Hid (w.heap.size<=wb.heap.size):=qz HB.out.size;have HV:=qz (Blk.new wb 26 #[.slice none 0 0]);have hb:=b1' wb (.cells #[.slice none 0 0] 26);have HST:=qz (own7_keep HST.out hb);have HIL:=qz (HIL.out.below hb HIL.out.lt)
    have HGS:Hid (w.heap.size<=wb.heap.size):=qz HB.out.size;obtain ⟨gs,hgs⟩:=exq wb.heap.size;obtain ⟨wc,hwc⟩:=exq (wb.alloc (.cells #[.slice none 0 0] 26));rw [hgs] at HV HGS;have HB:=qz (HB.out.trans (hb.mono HB.out.size));have HBS:=qz (HBS.out.step hb);rw [hwc] at HB HBS HV HST HIL;clear hb;go_simp;refine koq hK HBS.out (fun hHeld=>?_);clear hK K
    refine rdy 6 (fun K hK => ?_);have v0:=HV.out.cell 0;have v1:=HV.out.frozen 0;have HBS:=qz (Bx13.set HBS.out (p:=⟨gs,0,none⟩) HGS.out (by exact blk_ne12 HBS.out.box HV.out (by decide)) (.slice As (fr13 (rem13 A []) n n).length cs));go_simp;refine koq hK HBS.out (fun hHeld=>?_);clear hK K;refine rdy 7 (fun K hK => ?_);go_simp
    refine koq hK HBS.out (fun hHeld=>?_);clear hK K;refine wpAnyH_done (by kernel_rfl) ?_ _;have HSZL:Hid (w.heap.size<=gl):=qz (by have h1:=HGL.out; first | (have h2:=HSZwa.out; omega) | (have h2:=HSZwb.out; omega))
    have hgsl:gl≠gs:=by
     obtain ⟨es,h1,_⟩:=HIL.out;exact blk_ne12 h1 HV.out (by decide)
    go_wp2_with fail;go_meet
    refine ⟨gs,gl,cl,As,cs,rfl,by rw [lst13_len],qz ⟨HBS.out.box,by simpa using HV.out.set_ 0 (.slice As (fr13 (rem13 A []) n n).length cs),HIL.out.far (by exact hgsl) _,rfl,rfl,ownsRow_setCell_other HST.out (by exact own7_ne HST.out HV.out (by decide)) _,World.ownsRow_nil _ _ _ _,(fun r _ h => by cases h),(fun h => by have:=HTL.out gl (by rw [ob_eq]; exact h); omega),(fun h => by cases h),Nat.le_refl _,HGS.out,by have:=HGL.out; have:=HSZL.out; omega⟩,qz (HB.out.setCell (p:=⟨gs,0,none⟩) HGS.out _)⟩
   ·
    skip;have HSZwa:Hid (w.heap.size<=wa.heap.size):=qz HB.out.size;have HV:=qz (Blk.new wa 26 #[.slice none 0 0]);have hb:=b1' wa (.cells #[.slice none 0 0] 26);have HST:=qz (own7_keep HST.out hb);have HGS:Hid (w.heap.size<=wa.heap.size):=qz HB.out.size;obtain ⟨gs,hgs⟩:=exq wa.heap.size;obtain ⟨wb,hwb⟩:=exq (wa.alloc (.cells #[.slice none 0 0] 26))
    rw [hgs] at HV HGS;have HB:=qz (HB.out.trans (hb.mono HB.out.size));have HBS:=qz (HBS.out.step hb);rw [hwb] at HB HBS HV HST;clear hb;go_simp;refine koq hK HBS.out (fun hHeld=>?_);clear hK K;refine rdy 4 (fun K hK => ?_);have HSZwb:Hid (w.heap.size<=wb.heap.size):=qz HB.out.size;go_simp
    refine (clone13_any I n n (lst13 (rem13 A []) n) wb (lst13_len _ _) ((HGR.out.up HB.out).into.rd2 (lst13_len _ _) (fun j hj => lst13_nth hj)) (by omega)).mono ?_;rintro en wc ⟨gl,cl,rfl,hgl,hil,hb⟩;rw [lst13_len] at hil;have HIL:Hid (Ib13 wc gl n (rem13 A [])):=qz (hil.congr (fun j hj => lst13_nth hj));have HGL:=qz hgl
    have HTL:Hid (∀ r,(Value.slice As (fr13 (rem13 A []) n n).length cs).ownBlock = some r->r < gl):=qz (fun r hr => by have:=(HST.out.lt r hr).2; omega);have HST:=qz (own7_keep HST.out hb);have HV:=qz (HV.out.below hb HV.out.lt);clear hgl hil;have HB:=qz (HB.out.trans (hb.mono HB.out.size));have HBS:=qz (HBS.out.step hb);clear hb
    refine koq hK HBS.out (fun hHeld=>?_);clear hK K;refine rdy 6 (fun K hK => ?_);have v0:=HV.out.cell 0;have v1:=HV.out.frozen 0;have HBS:=qz (Bx13.set HBS.out (p:=⟨gs,0,none⟩) HGS.out (by exact blk_ne12 HBS.out.box HV.out (by decide)) (.slice As (fr13 (rem13 A []) n n).length cs));go_simp;refine koq hK HBS.out (fun hHeld=>?_);clear hK K
    refine rdy 7 (fun K hK => ?_);go_simp;refine koq hK HBS.out (fun hHeld=>?_);clear hK K;refine wpAnyH_done (by kernel_rfl) ?_ _;have HSZL:Hid (w.heap.size<=gl):=qz (by have h1:=HGL.out; first | (have h2:=HSZwa.out; omega) | (have h2:=HSZwb.out; omega))
    have hgsl:gl≠gs:=by
     obtain ⟨es,h1,_⟩:=HIL.out;exact blk_ne12 h1 HV.out (by decide)
    go_wp2_with fail;go_meet
    refine ⟨gs,gl,cl,As,cs,rfl,by rw [lst13_len],qz ⟨HBS.out.box,by simpa using HV.out.set_ 0 (.slice As (fr13 (rem13 A []) n n).length cs),HIL.out.far (by exact hgsl) _,rfl,rfl,ownsRow_setCell_other HST.out (by exact own7_ne HST.out HV.out (by decide)) _,World.ownsRow_nil _ _ _ _,(fun r _ h => by cases h),(fun h => by have:=HTL.out gl (by rw [ob_eq]; exact h); omega),(fun h => by cases h),Nat.le_refl _,HGS.out,by have:=HGL.out; have:=HSZL.out; omega⟩,qz (HB.out.setCell (p:=⟨gs,0,none⟩) HGS.out _)⟩
  ·
   skip;have HSZwn:Hid (w.heap.size<=wn.heap.size):=qz HB.out.size;have HV:=qz (Blk.new wn 26 #[.slice none 0 0]);have hb:=b1' wn (.cells #[.slice none 0 0] 26);have HGS:Hid (w.heap.size<=wn.heap.size):=qz HB.out.size;obtain ⟨gs,hgs⟩:=exq wn.heap.size;obtain ⟨wa,hwa⟩:=exq (wn.alloc (.cells #[.slice none 0 0] 26));rw [hgs] at HV HGS
   have HB:=qz (HB.out.trans (hb.mono HB.out.size));have HBS:=qz (HBS.out.step hb);rw [hwa] at HB HBS HV;clear hb;go_simp;refine koq hK HBS.out (fun hHeld=>?_);clear hK K;refine rdy 1 (fun K hK => ?_);have HSZwa:Hid (w.heap.size<=wa.heap.size):=qz HB.out.size;go_simp;refine (free13_any wa (HGR.out.up HB.out)).mono ?_;rintro en wb ⟨As,cs,rfl,ho,hb⟩
   have HST:=qz (own7_base ho HB.out.size);have HV:=qz (HV.out.below hb HV.out.lt);clear ho;have HB:=qz (HB.out.trans (hb.mono HB.out.size));have HBS:=qz (HBS.out.step hb);clear hb;refine koq hK HBS.out (fun hHeld=>?_);clear hK K;refine rdy 4 (fun K hK => ?_);have HSZwb:Hid (w.heap.size<=wb.heap.size):=qz HB.out.size;go_simp
   refine (clone13_any I n n (lst13 (rem13 A []) n) wb (lst13_len _ _) ((HGR.out.up HB.out).into.rd2 (lst13_len _ _) (fun j hj => lst13_nth hj)) (by omega)).mono ?_;rintro en wc ⟨gl,cl,rfl,hgl,hil,hb⟩;rw [lst13_len] at hil;have HIL:Hid (Ib13 wc gl n (rem13 A [])):=qz (hil.congr (fun j hj => lst13_nth hj));have HGL:=qz hgl
   have HTL:Hid (∀ r,(Value.slice As (fr13 (rem13 A []) n n).length cs).ownBlock = some r->r < gl):=qz (fun r hr => by have:=(HST.out.lt r hr).2; omega);have HST:=qz (own7_keep HST.out hb);have HV:=qz (HV.out.below hb HV.out.lt);clear hgl hil;have HB:=qz (HB.out.trans (hb.mono HB.out.size));have HBS:=qz (HBS.out.step hb);clear hb
   refine koq hK HBS.out (fun hHeld=>?_);clear hK K;refine rdy 6 (fun K hK => ?_);have v0:=HV.out.cell 0;have v1:=HV.out.frozen 0;have HBS:=qz (Bx13.set HBS.out (p:=⟨gs,0,none⟩) HGS.out (by exact blk_ne12 HBS.out.box HV.out (by decide)) (.slice As (fr13 (rem13 A []) n n).length cs));go_simp;refine koq hK HBS.out (fun hHeld=>?_);clear hK K
   refine rdy 7 (fun K hK => ?_);go_simp;refine koq hK HBS.out (fun hHeld=>?_);clear hK K;refine wpAnyH_done (by kernel_rfl) ?_ _;have HSZL:Hid (w.heap.size<=gl):=qz (by have h1:=HGL.out; first | (have h2:=HSZwa.out; omega) | (have h2:=HSZwb.out; omega))
   have hgsl:gl≠gs:=by
    obtain ⟨es,h1,_⟩:=HIL.out;exact blk_ne12 h1 HV.out (by decide)
   go_wp2_with fail;go_meet
   refine ⟨gs,gl,cl,As,cs,rfl,by rw [lst13_len],qz ⟨HBS.out.box,by simpa using HV.out.set_ 0 (.slice As (fr13 (rem13 A []) n n).length cs),HIL.out.far (by exact hgsl) _,rfl,rfl,ownsRow_setCell_other HST.out (by exact own7_ne HST.out HV.out (by decide)) _,World.ownsRow_nil _ _ _ _,(fun r _ h => by cases h),(fun h => by have:=HTL.out gl (by rw [ob_eq]; exact h); omega),(fun h => by cases h),Nat.le_refl _,HGS.out,by have:=HGL.out; have:=HSZL.out; omega⟩,qz (HB.out.setCell (p:=⟨gs,0,none⟩) HGS.out _)⟩
 case rest =>
 obtain ⟨gs,gl,cl,As,cs,rfl,rfl,HO,HBW⟩:=hcut;clear HB HBS hwn;go_wp2_with fail
 go_loopw [6] (fun v wr => ∃ (left:Nat->Nat) (As:Option Addr) (ks cs:Nat) (xs:List Nat) (Ao:Option Addr) (ko co:Nat) (told:List Nat),v = .slice Ao ko co/\Hid (Od13 wr w.heap.size w.heap.size gs gl n #[.slice (some ⟨E,0,none⟩) n n,.slice (some ⟨I,0,none⟩) n n] left As ks cs xs Ao ko co told)/\Hid (Kn13 A n told left xs [])/\Hid (Below w.heap.size w wr)) (fun v _ => n + 1 - lenOf13 v)
 case atStart => exact ⟨_,As,_,cs,_,none,0,0,[],rfl,HO,qz (Kn13.start A n),HBW⟩
 case round =>
  clear HO HBW;obtain ⟨left,As,ks,cs,xs,Ao,ko,co,told,rfl,HO,HK,HB⟩:=hrel;have v0:=HO.out.var.cell 0;have v1:=HO.out.var.frozen 0;have b0:=HO.out.box.cell 0;by_cases hk0:ks = 0
  ·
   subst hk0;have hxs:xs = []:=List.length_eq_zero_iff.1 HO.out.lx
   have hdone:told = os:=by
    have hk:=HK.out;rw [hxs] at hk;exact hk.end_.same HD.out
   have hlo:=HO.out.lo;have hle:=HD.out.1.len;have HOUT:=qz HO.out.out;rw [hdone] at HOUT hlo;clear hxs hdone;by_cases hfull:os.length = n
   ·
    obtain rfl:ko = n:=by omega
    have HF:=qz hfull;have hlt:¬ (ko:Int) < (ko:Int):=by omega
    clear hfull hlo hle;go_wp2_with fail;rw [HP.out];go_ret2;exact ⟨.slice Ao ko co,by rw [decide_eq_true HF.out]; rfl,fun _ => ⟨Ao,co,by rw [HF.out],by rw [HF.out]; exact HOUT.out⟩,fun h => absurd HF.out h,HB.out⟩
   ·
    have hlt:(ko:Int) < (n:Int):=by omega
    have HF:=qz hfull;clear hfull hlo hle;go_wp2_with fail;rw [HP.out];go_ret2;exact ⟨.slice none 0 0,by rw [decide_eq_false HF.out]; rfl,fun h => absurd h HF.out,fun _ => rfl,HB.out⟩
  ·
   obtain ⟨k,rfl⟩:∃ k,ks = k + 1:=⟨ks - 1,by omega⟩
   obtain ⟨xs',i,hxs⟩:∃ ys i,xs = ys ++ [i]:=by
    rcases List.eq_nil_or_concat xs with h | ⟨ys,i,h⟩
    · exact absurd HO.out.lx (by rw [h]; simp)
    · exact ⟨ys,i,by simpa using h⟩
   subst hxs;obtain ⟨r,rfl,hkc⟩:=own12_some HO.out.stk;have hxl:=HO.out.lx;have hlast:=own12_last HO.out.stk (by simpa using hxl);obtain ⟨hk2,hin⟩:=HK.out.pop;have hxn:=HK.out.len;have hlen:=hk2.tld.len;rw [List.length_append,List.length_singleton,HO.out.lo] at hlen;rw [hxl] at hxn;obtain ⟨Ak,ck,hrow,hrd⟩:=HGR.out.row hin
   obtain ⟨nf,hnf⟩:=exq ((outs A i).length);have hnfb:=outs_len A i;rw [hnf] at hrow hnfb;have HPOP:=qz (pop13_any gs r k cs i wr v0 v1 hlast hkc (by omega));have HO2:=qz HO.out.pop;have HB2:=qz (HB.out.setCell (p:=⟨gs,0,none⟩) HO.out.ls (.slice (some ⟨r,0,none⟩) k cs));obtain ⟨w2,hw2⟩:=exq (wr.setCell ⟨gs,0,none⟩ (.slice (some ⟨r,0,none⟩) k cs))
   rw [hw2] at HO2 HB2;have HROW:=qz hrow;have HRD:=qz hrd;have HNF:=qz hnf;have HK2:=qz hk2;have hs2:=HB2.out.size;have fi0:(0:Int)<=(i:Int):=by omega
   have fi1:(i:Int) < (n:Int):=by omega
   have HEB:=qz HGR.out.eb;clear hk2 hrow hrd hnf hlast HK hk0 v1 b0 hxl;go_wp2_with fail;refine HPOP.out.mono ?_;rintro e w3 ⟨rfl,hw3⟩;rw [hw2] at hw3;subst hw3;clear HPOP hw2
   go_wp2_with (at_builtin; go_loud (refine wpList_append_rv _ rfl (.tmp 19) (.tmp 21) 26 rfl w.heap.size 3 (.int .i64 0) 8 Tryz.underlying26 info_int11 rfl (by omega) (.slice Ao ko co) ko (ints told) rfl (own7_keep HO2.out.out (b1' w3 (.cells #[.int .i64 (i:Int)] 3))) (w3.heap.size + 1) (some ⟨w3.heap.size,0,none⟩) 1 (ints [i]) _ rfl rfl (rv12_one w3 i 3) (ints_one [i]) (by omega) (by simp; omega) ?_); intro A' c' w4 hc4 hown4 hg4 hbl4; obtain ⟨hO4,hB4⟩:=HO2.out.tell hs2 hg4 hown4.out hbl4; have HO4:=qz hO4; have HB4:=qz (HB2.out.trans hB4); have b0:=hO4.box.cell 0; have HR4:Hid (w4.cell? ⟨E,i,none⟩ = some (.slice Ak nf ck)):=qz ((HB4.out.cell (p:=⟨E,i,none⟩) HEB.out).trans HROW.out); have hr4:=HR4.out; clear hO4 hB4 hown4 hg4 hbl4)
   go_loopw [29] (fun iv wi => ∃ (p:Nat) (left2:Nat->Nat) (A2:Option Addr) (k2 c2:Nat) (ys:List Nat),iv = .int .i64 (p:Int)/\p<=nf/\Hid (Od13 wi w.heap.size w.heap.size gs gl n #[.slice (some ⟨E,0,none⟩) n n,.slice (some ⟨I,0,none⟩) n n] left2 A2 k2 c2 ys A' (ko + 1) c' (told ++ [i]))/\Hid (Kn13 A n (told ++ [i]) left2 ys ((outs A i).drop p))/\Hid (Below w.heap.size w wi)) (fun iv _ => nf - (intOf iv).toNat)
   case atStart => exact ⟨0,left,some ⟨r,0,none⟩,k,cs,xs',rfl,by omega,HO4,HK2,HB4⟩
   case round =>
    clear HO4 HK2 HB4 HR4 hr4 b0 HO2 HB2 hs2;obtain ⟨p,left2,A2,k2,c2,ys,rfl,hp,HO4,HK4,HB4⟩:=hrel;by_cases hpn:p < nf
    ·
     have hpo:p < (outs A i).length:=by have:=HNF.out; omega
     obtain ⟨b,o,hA,_,ca⟩:=Rd.at_ (Rd.below HRD.out HB4.out (Nat.le_refl _)) hpo;subst hA;obtain ⟨hy1,hy2⟩:=outs_nth HGR.out.part hpo;have hk4:=HK4.out;rw [drop_nth13 hpo] at hk4;obtain ⟨y,hy⟩:=exq (nth (outs A i) p);rw [hy] at ca hy2 hk4;obtain ⟨x,hx⟩:=hk4.low hy2;obtain ⟨cm,cf⟩:=HO4.out.left.cells hy2
     have hxm:x + 1<=2000000:=by
      rw [hx,hk4.lft y hy2];have h1:=rem13_le A (told ++ [i]) y;have h2:(y :: (outs A i).drop (p + 1)).countP (fun z => z == y)<=(y :: (outs A i).drop (p + 1)).length:=List.countP_le_length;simp only [List.length_cons,List.length_drop] at h2;have h3:=outs_len A i;omega
     rw [<- hx] at cm;obtain ⟨x1,hx1⟩:=exq (x + 1);have hwx:IntKind.i64.wrap ((x1:Int) - 1) = (x:Int):=by rw [<- hx1,IntKind.wrap_i64]; omega
     rw [hx1] at cm;have p0:(0:Int)<=(p:Int):=by omega
     have p1:(p:Int) < (nf:Int):=by omega
     have y0:(0:Int)<=(y:Int):=by omega
     have y1:(y:Int) < (n:Int):=by omega
     have HO5:=qz (HO4.out.cut hy2 x);have HB5:=qz (HB4.out.setCell (p:=⟨gl,y,none⟩) HO4.out.ll (.int .i64 (x:Int)));obtain ⟨w5,hw5⟩:=exq (wr.setCell ⟨gl,y,none⟩ (.int .i64 (x:Int)));rw [hw5] at HO5 HB5;obtain ⟨cm5,_⟩:=HO5.out.left.cells hy2;rw [upd_at] at cm5;by_cases hx0:x = 0
     ·
      subst hx0;rw [show ((0:Nat):Int) = 0 from rfl] at hw5;obtain ⟨q,hq⟩:=plc_ex hk4.fall (hk4.not_in hx);have HK5:=qz (hk4.put hy2 hx hq);have hyl:=hk4.len;have hlys:=HO5.out.lx;have HPUT:=qz (put13_any w5 HO5.out.var HO5.out.stk HO5.out.lx hq HB5.out.size HO5.out.ls (by omega) (by omega) (fun z hz => by have:=((hk4.mem z).1 hz).1; omega))
      clear hk4 hx hx1 hq hy1 hy hyl hlys hxm;go_wp2_with fail;refine HPUT.out.mono ?_;rintro e w6 ⟨rfl,A6,c6,h61,h62,h63,h64⟩;have HO6:=qz (HO5.out.put h61 h62 h63 h64);have HB6:=qz (HB5.out.trans h64.below);clear HPUT h61 h62 h63 h64;go_wp2_with fail;go_roundw
      case rel => exact ⟨p + 1,_,A6,_,c6,_,by go_num,by omega,HO6,HK5,HB6⟩
      case measure => simp [intOf]; omega
     ·
      have HK5:=qz (hk4.dec hy2 hx hx0);have hz2:¬ (x:Int) = 0:=by omega
      clear hk4 hx hx1 hy1 hy hx0 hxm;go_wp2_with fail;go_roundw
      case rel => exact ⟨p + 1,_,A2,k2,c2,ys,by go_num,by omega,HO5,HK5,HB5⟩
      case measure => simp [intOf]; omega
    ·
     obtain rfl:p = nf:=by omega
     have HK5:Hid (Kn13 A n (told ++ [i]) left2 ys []):=qz (by have h1:=HK4.out; rwa [List.drop_eq_nil_of_le (by have:=HNF.out; omega)] at h1);have p1:¬ (p:Int) < (p:Int):=by omega
     go_wp2_with fail;go_roundw
     case rel => exact ⟨left2,A2,k2,c2,ys,A',ko + 1,c',told ++ [i],rfl,HO4,HK5,HB4⟩
     case measure => simp [lenOf13]; omega
theorem dorder13_any (n:Int) (N:Nat) (hN:nn13 n = N) (Ad:Option Addr) (l:List (Int × Int)) (m c:Nat) (os:List Nat) (w:World) (hl:l.length = m) (hr:Aq w w.heap.size Ad l) (hm:m<=1000000) (hd:Done13 (cut13 N l) N os) :
  Calls Tryz.prog 100 #[.int .i64 n,.slice Ad m c] w (RetO13 w N os):=by
 have HP:Hid (RetO13 w N os = fun e w' => ∃ v,e = .returned (.tuple #[v,.bool (decide (os.length = N))])/\(os.length = N->∃ A c,v = .slice A os.length c/\w'.ownsRow w.heap.size 3 1 (.slice A os.length c) os.length (ints os))/\(¬ os.length = N->v = .slice none 0 0)/\Below w.heap.size w w'):=qz rfl;have HLA:=qz (laid13_any n N hN Ad l m c w hl hr hm);have HD:=qz hd
 clear hl hr hd hN;go_enter Tryz.func100,Tryz.ntmps100;go_wp2_with fail;refine HLA.out.mono ?_;rintro e w1 ⟨E,I,rfl,hg,hE,hI,hb⟩;have HO:=qz (order13_any w1 hg HD.out);have HB:=qz hb;unfold gv13 at HO;unfold gv13;clear HLA hg hE hI hb;go_wp2_with fail;refine HO.out.mono ?_;rintro e w2 ⟨v,rfl,h1,h2,hb2⟩;have H1:=qz h1;have H2:=qz h2
 have HB2:=qz (HB.out.trans (hb2.mono HB.out.size));clear HO h1 h2 hb2;go_wp2_with fail;rw [HP.out];go_ret2;refine ⟨v,rfl,fun h => ?_,H2.out,HB2.out⟩;obtain ⟨A,c,h3,h4⟩:=H1.out h;exact ⟨A,c,h3,own7_base h4 HB.out.size⟩
def Cl13 (l:List (Int × Int)) (n:Nat) (a:Int) (m:Nat->Bool) (p:Nat):Prop :=
 ∀ q,q < p->∀ x y:Nat,arr l q = ((x:Int),(y:Int))->x < n->y < n->((x:Int) = a\/m x = true)->m y = true
theorem Cl13.next {l:List (Int × Int)} {n p:Nat} {a:Int} {m:Nat->Bool} (h:Cl13 l n a m p) (hp:∀ x y:Nat,arr l p = ((x:Int),(y:Int))->x < n->y < n->((x:Int) = a\/m x = true)->m y = true):Cl13 l n a m (p + 1):=by
 intro q hq;rcases (show q < p\/q = p by omega) with h1 | rfl
 · exact h q h1
 · exact hp
theorem arr_mem {l:List (Int × Int)} {n x y:Nat} (h:(x,y)∈cut13 n l):∃ q,q < l.length/\arr l q = ((x:Int),(y:Int)):=by
 obtain ⟨q,hq,he⟩:=List.getElem_of_mem (cut13_mem.1 h).1;exact ⟨q,hq,by simp [arr,List.getElem?_eq_getElem hq,he]⟩
theorem arr_in {l:List (Int × Int)} {n x y q:Nat} (hq:q < l.length) (h:arr l q = ((x:Int),(y:Int))) (hx:x < n) (hy:y < n):(x,y)∈cut13 n l:=by
 refine cut13_mem.2 ⟨?_,hx,hy⟩;rw [<- h];have:arr l q = l[q]:=by simp [arr,List.getElem?_eq_getElem hq]
 rw [this];exact List.getElem_mem hq
theorem Cl13.end_ {l:List (Int × Int)} {n b:Nat} {m:Nat->Bool} (h:Cl13 l n (b:Int) m l.length) (hs:∀ x,m x = true->∃ b':Nat,(b:Int) = (b':Int)/\Way (cut13 n l) b' x):∀ y,m y = wayb (cut13 n l) b y :=
 mark13 (fun x hx => by
  obtain ⟨b',h1,h2⟩:=hs x hx;obtain rfl:b' = b:=by omega
  exact h2) (fun x y hx hxy => by
  obtain ⟨q,hq,he⟩:=arr_mem hxy;obtain ⟨h1,h2⟩:=cut13_lt hxy
  exact h q hq x y he h1 h2 (hx.imp (fun e => by rw [e]) id))
theorem Bb13.step {w w':World} {g n:Nat} {m:Nat->Bool} (q:Bb13 w g n m) (hb:Below w.heap.size w w'):Bb13 w' g n m:=by
 obtain ⟨cs,h1,h2⟩:=q;exact ⟨cs,h1.below hb h1.lt,h2⟩
theorem made_b13 (W:World) (n:Nat):Bb13 (W.alloc (.cells (madeCells #[.bool false] n) 4)) W.heap.size n (fun _ => false):=made13 W 4 n (.bool false)
def bn13 (b:Bool):Nat:=if b then 1 else 0
def RetR13 (w:World) (n:Nat) (l:List (Int × Int)) (a:Int) (e:Ending) (w':World):Prop :=
 ∃ g T,e = .returned (.slice (some ⟨g,0,none⟩) n n)/\Rv w' w'.heap.size (some ⟨g,0,none⟩) (bls T n)/\(∀ b:Nat,a = (b:Int)->∀ y,T y = wayb (cut13 n l) b y)/\Below w.heap.size w w'
theorem rreach13_any (
           n:Nat) (Ad:Option Addr) (l:List (Int × Int)) (m c:Nat) (a:Int) (w:World) (hl:l.length = m) (hr:Aq w w.heap.size Ad l) (hm:m<=1000000) (hn:n<=1000000) :
  Calls Tryz.prog 48 #[.int .i64 (n:Int),.slice Ad m c,.int .i64 a] w (RetR13 w n l a):=by
 have HP:Hid (RetR13 w n l a = fun e w' => ∃ g T,e = .returned (.slice (some ⟨g,0,none⟩) n n)/\Rv w' w'.heap.size (some ⟨g,0,none⟩) (bls T n)/\(∀ b:Nat,a = (b:Int)->∀ y,T y = wayb (cut13 n l) b y)/\Below w.heap.size w w'):=qz rfl;have HR:=qz hr;have HL:=qz hl;have hmk:=make_bools13 n hn;have HM0:=qz (made_b13 w n)
 have HB0:=qz (b1' w (.cells (madeCells #[.bool false] n) 4));have hun0:=un13_le (fun _ => false) n;clear hr hl;go_enter Tryz.func48,Tryz.ntmps48;go_wp2_with fail;clear hmk
 go_loopg [8] (n + 2) (fun kx v wr => ∃ (K:Nat) (mk:Nat->Bool) (ag:Bool),K = kx/\v = .bool ag/\un13 mk n + bn13 ag<=K/\Hid (Bb13 wr w.heap.size n mk)/\Hid (∀ x,mk x = true->∃ b:Nat,a = (b:Int)/\Way (cut13 n l) b x)/\Hid (ag = false->Cl13 l n a mk m)/\Hid (Below w.heap.size w wr))
 case atStart => exact ⟨n + 2,_,true,rfl,rfl,by simp only [bn13,if_true]; omega,HM0,qz (fun x h => by cases h),qz (fun h => by cases h),HB0⟩
 case round =>
  clear HM0 HB0 hun0;obtain ⟨K,mk,ag,rfl,rfl,hme,HM,HS,HC,HB⟩:=hrel
  cases ag with
  | false =>
   have HRV:=qz (HM.out.rv (T:=mk) (fun _ => rfl));have HCL:=qz (HC.out rfl);go_wp2_with fail;go_ret;rw [HP.out];refine ⟨w.heap.size,mk,rfl,HRV.out,fun b hb => ?_,HB.out⟩;subst hb;have h1:=HCL.out;have h2:=HL.out;rw [<- h2] at h1
   exact h1.end_ HS.out
  | true =>
   have hme2:un13 mk n + 1<=K:=hme;clear hme HC;go_wp2_with fail
   go_loopw [8,9] (fun v iv wi => ∃ (p:Nat) (mk2:Nat->Bool) (ag:Bool),v = .bool ag/\iv = .int .i64 (p:Int)/\p<=m/\un13 mk2 n + bn13 ag + 1<=K/\Hid (Bb13 wi w.heap.size n mk2)/\Hid (∀ x,mk2 x = true->∃ b:Nat,a = (b:Int)/\Way (cut13 n l) b x)/\Hid (ag = false->Cl13 l n a mk2 p)/\Hid (Below w.heap.size w wi)) (fun _ iv _ => m - (intOf iv).toNat)
   case atStart => exact ⟨0,mk,false,rfl,rfl,by omega,by simp [bn13]; omega,HM,HS,qz (fun _ q hq => by omega),HB⟩
   case round =>
    clear HM HS HB hme2;obtain ⟨p,mk2,ag,rfl,rfl,hp,hme,HM,HS,HC,HB⟩:=hrel;by_cases hpm:p < m
    ·
     have hpl:p < l.length:=by have:=HL.out; omega
     obtain ⟨ba,o,hA,_,c0,c1⟩:=Aq.at_ (Rv.below HR.out HB.out (Nat.le_refl _)) hpl;subst hA;obtain ⟨fi,hfi⟩:=exq ((arr l p).1);obtain ⟨ti,hti⟩:=exq ((arr l p).2);rw [hfi] at c0;rw [hti] at c1;have HAR:Hid (arr l p = (fi,ti)):=qz (by rw [<- hfi,<- hti]);have hb1:=b1' wr (.cells #[.int .i64 fi,.int .i64 ti] 74)
     have hbk:=Blk.new wr 74 #[.int .i64 fi,.int .i64 ti];have x0:=hbk.cell 0;have x1:=hbk.cell 1;have HM1:=qz (HM.out.step hb1);have HB1:=qz (HB.out.trans (hb1.mono HB.out.size));have i0:(0:Int)<=(p:Int):=by omega
     have i1:(p:Int) < (m:Int):=by omega
     clear hfi hti hb1 hbk;by_cases hf0:fi < 0
     ·
      have HC1:Hid (ag = false->Cl13 l n a mk2 (p + 1)):=qz (fun h => (HC.out h).next (fun x y he hx hy hh => by
       rw [HAR.out] at he;injection he with h1 h2
       omega))
      go_wp2_with fail;go_roundw
      case rel => exact ⟨p + 1,mk2,ag,rfl,by go_num,by omega,hme,HM1,HS,HC1,HB1⟩
      case measure => simp [intOf]; omega
     ·
      by_cases hfn:(
              n:Int)<=fi
      ·
       have HC1:Hid (ag = false->Cl13 l n a mk2 (p + 1)):=qz (fun h => (HC.out h).next (fun x y he hx hy hh => by
        rw [HAR.out] at he;injection he with h1 h2
        omega))
       go_wp2_with fail;go_roundw
       case rel => exact ⟨p + 1,mk2,ag,rfl,by go_num,by omega,hme,HM1,HS,HC1,HB1⟩
       case measure => simp [intOf]; omega
      ·
       by_cases ht0:ti < 0
       ·
        have HC1:Hid (ag = false->Cl13 l n a mk2 (p + 1)):=qz (fun h => (HC.out h).next (fun x y he hx hy hh => by
         rw [HAR.out] at he;injection he with h1 h2
         omega))
        go_wp2_with fail;go_roundw
        case rel => exact ⟨p + 1,mk2,ag,rfl,by go_num,by omega,hme,HM1,HS,HC1,HB1⟩
        case measure => simp [intOf]; omega
       ·
        by_cases htn:(n:Int)<=ti
        ·
         have HC1:Hid (ag = false->Cl13 l n a mk2 (p + 1)):=qz (fun h => (HC.out h).next (fun x y he hx hy hh => by
          rw [HAR.out] at he;injection he with h1 h2
          omega))
         go_wp2_with fail;go_roundw
         case rel => exact ⟨p + 1,mk2,ag,rfl,by go_num,by omega,hme,HM1,HS,HC1,HB1⟩
         case measure => simp [intOf]; omega
        ·
         obtain ⟨f,rfl⟩:∃ f:Nat,fi = (f:Int):=⟨fi.toNat,by omega⟩
         obtain ⟨t,rfl⟩:∃ t:Nat,ti = (t:Int):=⟨ti.toNat,by omega⟩
         have hfN:f < n:=by omega
         have htN:t < n:=by omega
         obtain ⟨mt,mtf⟩:=HM1.out.cells htN;obtain ⟨mf,mff⟩:=HM1.out.cells hfN;have t0:(0:Int)<=(t:Int):=by omega
         have t1:(t:Int) < (n:Int):=by omega
         have f0:(0:Int)<=(f:Int):=by omega
         have f1:(f:Int) < (n:Int):=by omega
         cases hmt:mk2 t with
         | true =>
          rw [hmt] at mt
          have HC1:Hid (ag = false->Cl13 l n a mk2 (p + 1)):=qz (fun h => (HC.out h).next (fun x y he hx hy hh => by
           rw [HAR.out] at he;injection he with h1 h2
           obtain rfl:t = y:=by omega
           exact hmt))
          clear hmt mf mff mtf;go_wp2_with fail;go_roundw
          case rel => exact ⟨p + 1,mk2,ag,rfl,by go_num,by omega,hme,HM1,HS,HC1,HB1⟩
          case measure => simp [intOf]; omega
         | false =>
          rw [hmt] at mt;have hun:=un13_mark htN hmt;have HIN:=qz (arr_in hpl HAR.out hfN htN);by_cases hfa:(f:Int) = a
          ·
           have HM2:=qz (HM1.out.put htN true);have HB2:=qz (HB1.out.setCell (p:=⟨w.heap.size,t,none⟩) (Nat.le_refl _) (.bool true))
           have HS2:Hid (∀ x,upd mk2 t true x = true->∃ b:Nat,a = (b:Int)/\Way (cut13 n l) b x):=qz (fun x hx => by
            by_cases e:x = t
            ·
             subst e;exact ⟨f,hfa.symm,.one HIN.out⟩
            ·
             rw [upd_far _ _ e] at hx
             exact HS.out x hx)
           have hbn:bn13 ag<=1:=by unfold bn13; split <;> omega
           subst hfa;clear hmt mf mff;go_wp2_with fail;go_roundw
           case rel => exact ⟨p + 1,_,true,rfl,by go_num,by omega,by simp only [bn13,if_true]; omega,HM2,HS2,qz (fun h => by cases h),HB2⟩
           case measure => simp [intOf]; omega
          ·
           have hfa2:((f:Int) == a) = false:=by simp [hfa]
           cases hmf:mk2 f with
           | true =>
            rw [hmf] at mf;have HM2:=qz (HM1.out.put htN true);have HB2:=qz (HB1.out.setCell (p:=⟨w.heap.size,t,none⟩) (Nat.le_refl _) (.bool true))
            have HS2:Hid (∀ x,upd mk2 t true x = true->∃ b:Nat,a = (b:Int)/\Way (cut13 n l) b x):=qz (fun x hx => by
             by_cases e:x = t
             ·
              subst e;obtain ⟨b,h1,h2⟩:=HS.out f hmf;exact ⟨b,h1,h2.step HIN.out⟩
             ·
              rw [upd_far _ _ e] at hx
              exact HS.out x hx)
            clear hmt hmf mff;go_wp2_with fail;go_roundw
            case rel => exact ⟨p + 1,_,true,rfl,by go_num,by omega,by simp only [bn13,if_true]; omega,HM2,HS2,qz (fun h => by cases h),HB2⟩
            case measure => simp [intOf]; omega
           | false =>
            rw [hmf] at mf
            have HC1:Hid (ag = false->Cl13 l n a mk2 (p + 1)):=qz (fun h => (HC.out h).next (fun x y he hx hy hh => by
             rw [HAR.out] at he;injection he with h1 h2
             obtain rfl:f = x:=by omega
             rcases hh with h3 | h3
             · exact absurd h3 hfa
             ·
              rw [hmf] at h3
              cases h3))
            clear hmt hmf mff;go_wp2_with fail;go_roundw
            case rel => exact ⟨p + 1,mk2,ag,rfl,by go_num,by omega,hme,HM1,HS,HC1,HB1⟩
            case measure => simp [intOf]; omega
    ·
     obtain rfl:p = m:=by omega
     have p1:¬ (p:Int) < (p:Int):=by omega
     go_wp2_with fail
     go_roundg (un13 mk2 n + bn13 ag)
     case measure => omega
     case rel => exact ⟨_,mk2,ag,rfl,rfl,Nat.le_refl _,HM,HS,HC,HB⟩
theorem rring13_any (n:Nat) (Ad:Option Addr) (l:List (Int × Int)) (m c:Nat) (os:List Nat) (w:World) (hl:l.length = m) (hr:Aq w w.heap.size Ad l) (hm:m<=1000000) (hn:n<=1000000) (hd:Done13 (cut13 n l) n os) :
  Calls Tryz.prog 26 #[.int .i64 (n:Int),.slice Ad m c] w fun e w' => e = .returned (.bool (!decide (os.length = n)))/\Below w.heap.size w w':=by
 have HR:=qz hr;have HL:=qz hl;have HIN:Hid (In13 (cut13 n l) n):=qz (fun p hp => cut13_lt hp);have HRG:=qz (hd.ring HIN.out);have hle:=hd.1.len;have HC:=qz (fun (i:Nat) (W:World) (hb:Below w.heap.size w W) => rreach13_any n Ad l m c (i:Int) W hl (Rv.step hr hb) hm hn);obtain ⟨b,hbb⟩:=exq ((!decide (os.length = n)));have HBB:=qz hbb;have HLE:=qz hle
 rw [hbb];clear hr hl hd hbb hle;go_enter Tryz.func26,Tryz.ntmps26;go_wp2_with fail;go_loopw [5] (fun iv wr => ∃ i:Nat,iv = .int .i64 (i:Int)/\i<=n/\Hid (∀ j,j < i->wayb (cut13 n l) j j = false)/\Hid (Below w.heap.size w wr)) (fun iv _ => n - (intOf iv).toNat)
 case atStart => exact ⟨0,rfl,by omega,qz (fun j h => by omega),qz (Below.refl _ _)⟩
 case round =>
  obtain ⟨i,rfl,hi,HF,HB⟩:=hrel;by_cases hin:i < n
  ·
   have HCI:=qz (HC.out i wr HB.out);have i0:(0:Int)<=(i:Int):=by omega
   have i1:(i:Int) < (n:Int):=by omega
   go_wp2_with fail;refine HCI.out.mono ?_;rintro e w1 ⟨g,T,rfl,hrv,hT,hb1⟩;obtain ⟨a,o,hA,_,ca⟩:=bls_at hrv hin;injection hA with hA
   injection hA with hA1 hA2
   subst hA1 hA2;rw [Nat.zero_add] at ca;have hTi:=hT i rfl i;have HB1:=qz (HB.out.trans (hb1.mono HB.out.size));clear HCI hrv hT hb1
   cases ht:T i with
   | true =>
    rw [ht] at ca hTi
    have HBT:Hid (b = true):=qz (by
     have h1:=HRG.out.1 ⟨i,wayb_yes.1 hTi.symm⟩;rw [<- HBB.out,decide_eq_false (by omega)]
     rfl)
    clear ht hTi;go_wp2_with fail;go_ret
    exact ⟨by rw [HBT.out]; rfl,HB1.out⟩
   | false =>
    rw [ht] at ca hTi
    have HF1:Hid (∀ j,j < i + 1->wayb (cut13 n l) j j = false):=qz (fun j hj => by
     rcases (show j < i\/j = i by omega) with h | rfl
     · exact HF.out j h
     · exact hTi.symm)
    clear ht hTi;go_wp2_with fail;go_roundw
    case rel => exact ⟨i + 1,by go_num,by omega,HF1,HB1⟩
    case measure => simp [intOf]; omega
  ·
   obtain rfl:i = n:=by omega
   have HBF:Hid (b = false):=qz (by
    have h1:¬ Rng13 (cut13 i l):=by
     rintro ⟨j,hj⟩;have h2:=HF.out j (hj.lt HIN.out).1;rw [wayb_yes.2 hj] at h2;cases h2
    have h3:¬ os.length < i:=fun h => h1 (HRG.out.2 h)
    rw [<- HBB.out,decide_eq_true (by have:=HLE.out; omega)]
    rfl)
   have i1:¬ (i:Int) < (i:Int):=by omega
   go_wp2_with fail;go_ret;exact ⟨by rw [HBF.out]; rfl,HB.out⟩
theorem ce6 {W:World} {g:Nat} {t:TypeId} {a b c d e f:Value} {r:List Value} (h:Blk W g t (a::b::c::d::e::f::r).toArray):W.cell? ⟨g,0,none⟩ = some a/\W.cell? ⟨g,1,none⟩ = some b/\W.cell? ⟨g,2,none⟩ = some c/\W.cell? ⟨g,3,none⟩ = some d/\W.cell? ⟨g,4,none⟩ = some e/\W.cell? ⟨g,5,none⟩ = some f:=⟨h.cell 0,h.cell 1,h.cell 2,h.cell 3,h.cell 4,h.cell 5⟩
def cArr14 (S:Sv14):Nat->List (Int × Int)
 | 0 => []
 | k + 1 => cArr14 S k ++ if (gt14 S.T k).u = true/\(gt14 S.T k).k = 2 then [((gt14 S.T k).c,(gt14 S.T k).t)] else []
def tArr14 (S:Sv14):Nat->List (Int × Int)
 | 0 => []
 | k + 1 => tArr14 S k ++ if (gt14 S.H k).s = 4 then [((k:Int),(gt14 S.H k).f)] else if (gt14 S.H k).s = 6 then [((k:Int),(at14 usL S.L (gt14 S.H k).f).h)] else []
theorem cArr14_len (S:Sv14) (k:Nat):(cArr14 S k).length<=k:=by
 induction k with
 | zero => exact Nat.le_refl _
 | succ k ih => rw [cArr14,List.length_append]; split <;> simp <;> omega
theorem tArr14_len (S:Sv14) (k:Nat):(tArr14 S k).length<=k:=by
 induction k with
 | zero => exact Nat.le_refl _
 | succ k ih =>
         rw [tArr14,List.length_append]; split <;> try split
         all_goals simp <;> omega
theorem info14A:(Tryz.prog.info? 146).map (fun i => (i.zero,i.size,i.bytes)) = some (some (.agg #[.int .i64 0,.int .i64 0]),2,16):=by kernel_rfl
theorem aq14_own {w:World} {base:Nat} {e:TypeId} {A:Option Addr} {c n:Nat} {l:List (Int × Int)} (h:w.ownsRow base e 2 (.slice A n c) n (acs l)):Aq w w.heap.size A l:=by
 intro hx;have hl:=h.1;have hpos:0 < (acs l).length:=List.length_pos_iff.2 hx;rcases h.2 with ⟨_,h1⟩ | ⟨g,cap,cur,hv,_,hh,_⟩
 ·
  subst h1;rw [hl,Nat.zero_mul] at hpos;omega
 ·
  have hA:A = some ⟨g,0,none⟩:=by injection hv
  subst hA;refine ⟨g,0,rfl,(h.lt g rfl).2,fun i v hk => ?_⟩;have hc:=h.cells (g:=g) rfl i _ hk;rw [Go.WideShapes.add_plain] at hc;exact hc
def RetAq14 (w:World) (l:List (Int × Int)) (e:Ending) (w':World):Prop:=∃ A c,e = .returned (.slice A l.length c)/\Aq w' w'.heap.size A l/\Below w.heap.size w w'
structure Ar14 (w:World) (S:Sv14) (A0 A1 A2 A3 A4:Option Addr) (n0 n1 n2 n3 n4 c0 c1 c2 c3 c4:Nat) (sq:Int) (A:Option Addr) (m c:Nat) (l:List (Int × Int)) (W:World):Prop where
 b:Bx14 w S A0 A1 A2 A3 A4 n0 n1 n2 n3 n4 c0 c1 c2 c3 c4 sq W
 o:W.ownsRow (w.heap.size + 1) 146 2 (.slice A m c) m (acs l)
 l:l.length = m
theorem Ar14.step {w:World} {S:Sv14} {A0 A1 A2 A3 A4:Option Addr} {n0 n1 n2 n3 n4 c0 c1 c2 c3 c4:Nat} {sq:Int} {A:Option Addr} {m c:Nat} {l:List (Int × Int)} {W W':World} (h:Ar14 w S A0 A1 A2 A3 A4 n0 n1 n2 n3 n4 c0 c1 c2 c3 c4 sq A m c l W) (hb:Below W.heap.size W W'):Ar14 w S A0 A1 A2 A3 A4 n0 n1 n2 n3 n4 c0 c1 c2 c3 c4 sq A m c l W' :=
 ⟨h.b.step hb,own12_keep2 h.o hb,h.l⟩
theorem Ar14.congr {w:World} {S:Sv14} {A0 A1 A2 A3 A4:Option Addr} {n0 n1 n2 n3 n4 c0 c1 c2 c3 c4:Nat} {sq:Int} {A:Option Addr} {m c:Nat} {l l2:List (Int × Int)} {W:World} (h:Ar14 w S A0 A1 A2 A3 A4 n0 n1 n2 n3 n4 c0 c1 c2 c3 c4 sq A m c l W) (e:l = l2):Ar14 w S A0 A1 A2 A3 A4 n0 n1 n2 n3 n4 c0 c1 c2 c3 c4 sq A m c l2 W:=e ▸ h
theorem Ar14.push {w:World} {S:Sv14} {A0 A1 A2 A3 A4:Option Addr} {n0 n1 n2 n3 n4 c0 c1 c2 c3 c4:Nat} {sq:Int} {A:Option Addr} {m c:Nat} {l:List (Int × Int)} {W:World} (hs:SA14 w S A0 A1 A2 A3 A4 n0 n1 n2 n3 n4 c0 c1 c2 c3 c4 sq) (h:Ar14 w S A0 A1 A2 A3 A4 n0 n1 n2 n3 n4 c0 c1 c2 c3 c4 sq A m c l W) (x y:Int) (hm:m<=2000) :
  ∃ Az cz W2,(Builtin.append_ #[126,126] 126 #[.slice A m c,.slice (some ⟨W.heap.size,0,none⟩) 1 1]).run Tryz.prog (W.alloc (.cells #[.int .i64 x,.int .i64 y] 146)) = .ok (.slice Az (m + 1) cz) W2/\Ar14 w S A0 A1 A2 A3 A4 n0 n1 n2 n3 n4 c0 c1 c2 c3 c4 sq Az (m + 1) cz (l ++ [(x,y)]) W2:=by
 have hbz:=b1' W (.cells #[.int .i64 x,.int .i64 y] 146);have hkz:=Blk.new W 146 #[.int .i64 x,.int .i64 y];have h1:=h.step hbz;have hsy:(W.alloc (.cells #[.int .i64 x,.int .i64 y] 146)).heap.size = W.heap.size + 1:=by simp
 obtain ⟨Y,hY⟩:=exq (W.alloc (.cells #[.int .i64 x,.int .i64 y] 146));rw [hY] at hbz hkz h1 hsy ⊢;have hrv:Rv Y Y.heap.size (some ⟨W.heap.size,0,none⟩) [.int .i64 x,.int .i64 y]:=fun _ => ⟨W.heap.size,0,rfl,by omega,fun j v hj => by rw [Nat.zero_add,hkz.cell]; simpa using hj⟩
 have hxl:=h1.b.x.lt;obtain ⟨Az,cz,W2,hrun,hown,hg⟩:=run_append_14 (P:=Tryz.prog) Y (w.heap.size + 1) 126 126 146 _ 2 16 Tryz.underlying126 info14A rfl (by omega) (by omega) _ m _ h1.o Y.heap.size (some ⟨W.heap.size,0,none⟩) [.int .i64 x,.int .i64 y] 1 1 rfl hrv (by simp [Value.oneCell']) (by omega) (by omega)
 have hB:Below w.heap.size w W2:=h1.b.b.grown hg h1.b.b.size (fun r hr => by have:=(h1.o.lt r hr).1; omega);refine ⟨Az,cz,W2,hrun,⟨hB,h1.b.x.grown hg (fun e => by have:=(h1.o.lt _ e.symm).1; omega),hs.step hB⟩,?_,by simp [h.l]⟩;rw [acs_append];exact hown
theorem coinArrows14 (v:Value) (S:Sv14) (w:World) (h:St14 w v S):Calls Tryz.prog 101 #[v] w (RetAq14 w (cArr14 S S.T.length)):=by
 obtain ⟨A0,A1,A2,A3,A4,n0,n1,n2,n3,n4,c0,c1,c2,c3,c4,sq,rfl,hs⟩:=h;have HP:Hid (RetAq14 w (cArr14 S S.T.length) = fun e w' => ∃ A c,e = .returned (.slice A (cArr14 S n1).length c)/\Aq w' w'.heap.size A (cArr14 S n1)/\Below w.heap.size w w'):=qz (by rw [hs.l1]; rfl)
 have HX0:Hid (Ar14 w S A0 A1 A2 A3 A4 n0 n1 n2 n3 n4 c0 c1 c2 c3 c4 sq none 0 0 (cArr14 S 0) (w.alloc (.cells #[.slice A0 n0 c0,.slice A1 n1 c1,.slice A2 n2 c2,.slice A3 n3 c3,.slice A4 n4 c4,.int .i64 sq] 28))):=qz ⟨Bx14.new hs,World.ownsRow_nil _ _ _ _,rfl⟩;have HS:=qz hs;have hnb:=hs.m1;have t1:=HX0.out.b.x.cell 1;clear hs
 go_enter Tryz.func101,Tryz.ntmps101;go_wp2_with fail;clear t1;go_loopw [2,8] (fun v i wr => ∃ (k:Nat) (A:Option Addr) (m c:Nat),v = .slice A m c/\i = .int .i64 (k:Int)/\k<=n1/\Hid (Ar14 w S A0 A1 A2 A3 A4 n0 n1 n2 n3 n4 c0 c1 c2 c3 c4 sq A m c (cArr14 S k) wr)) (fun _ i _ => n1 - (intOf i).toNat)
 case atStart => exact ⟨0,none,0,0,rfl,rfl,by omega,HX0⟩
 case round =>
  obtain ⟨k,A,m,c,rfl,rfl,hk,HW⟩:=hrel;by_cases hkn:k < n1
  ·
   skip;obtain ⟨a,of,hA,hab,hq⟩:=Lq.at_ len14T (by omega) HW.out.b.s.r1 (show k < S.T.length by rw [HW.out.b.s.l1]; omega);have HAE:=qz hA;obtain ⟨x,hx⟩:=exq (gt14 S.T k);rw [hx] at hq;obtain ⟨xu,xc,xa,xk,xt,xo⟩:=x;have e0:wr.cell? ⟨a,of + k * 6,none⟩ = some (.bool xu):=hq 0 _ rfl;have e1:wr.cell? ⟨a,of + k * 6 + 1,none⟩ = some (.int .i64 xc):=hq 1 _ rfl
   have e2:wr.cell? ⟨a,of + k * 6 + 2,none⟩ = some (.int .i64 xa):=hq 2 _ rfl;have e3:wr.cell? ⟨a,of + k * 6 + 3,none⟩ = some (.int .i64 xk):=hq 3 _ rfl;have e4:wr.cell? ⟨a,of + k * 6 + 4,none⟩ = some (.int .i64 xt):=hq 4 _ rfl;have e5:wr.cell? ⟨a,of + k * 6 + 5,none⟩ = some (.bool xo):=hq 5 _ rfl;have i0:(0:Int)<=(k:Int):=by omega
   have i1:(k:Int) < (n1:Int):=by omega
   have HV:=qz (Ar14.step HW.out (b1' wr (.cells #[.bool xu,.int .i64 xc,.int .i64 xa,.int .i64 xk,.int .i64 xt,.bool xo] 55)));have hv:=Blk.new wr 55 #[.bool xu,.int .i64 xc,.int .i64 xa,.int .i64 xk,.int .i64 xt,.bool xo];obtain ⟨v0,v1,v2,v3,v4,v5⟩:=ce6 hv;have HVB:=qz hv;have HXE:=qz hx;obtain ⟨p0,p1,p2,p3,p4,p5⟩:=ce6 HV.out.b.x
   obtain ⟨X,hX⟩:=exq (wr.alloc (.cells #[.bool xu,.int .i64 xc,.int .i64 xa,.int .i64 xk,.int .i64 xt,.bool xo] 55));rw [hX] at HV HVB v0 v1 v2 v3 v4 v5 p0 p1 p2 p3 p4 p5;clear hv hq hx hab;subst hA;have hmk:m<=k:=by rw [<- HW.out.l]; exact cArr14_len S k
   cases xu with
   | false =>
    have HN:=qz (HV.out.congr (l2:=cArr14 S (k + 1)) (by rw [cArr14,HXE.out,if_neg (by simp),List.append_nil]));go_wp2_with fail;go_roundw
    case rel => exact ⟨k + 1,A,m,c,rfl,by go_num,by omega,HN⟩
    case measure => simp [intOf]; omega
   | true =>
    by_cases k2:xk = 2
    ·
     subst k2;have HE:Hid (cArr14 S (k + 1) = cArr14 S k ++ [(xc,xt)]):=qz (by rw [cArr14,HXE.out,if_pos (by simp)]);obtain ⟨Az,cz,W2,hrun,har⟩:=HV.out.push HS.out xc xt (by omega);have HRUN:=qz hrun;have HAR:=qz (har.congr HE.out.symm);clear hrun har
     go_wp2_with (at_builtin; go_loud (refine wpList_append_14 _ rfl (.tmp 19) (.tmp 25) 126 rfl _ _ _ _ rfl rfl HRUN.out ?_));go_roundw
     case rel => exact ⟨k + 1,Az,m + 1,cz,rfl,by go_num,by omega,HAR⟩
     case measure => simp [intOf]; omega
    ·
     have HN:=qz (HV.out.congr (l2:=cArr14 S (k + 1)) (by rw [cArr14,HXE.out,if_neg (by simp [k2]),List.append_nil]));go_wp2_with fail;go_roundw
     case rel => exact ⟨k + 1,A,m,c,rfl,by go_num,by omega,HN⟩
     case measure => simp [intOf]; omega
  ·
   obtain rfl:k = n1:=by omega
   have HL:=qz HW.out.l;have h1:¬ (k:Int) < (k:Int):=by omega
   go_wp2_with fail;go_ret;rw [HP.out];exact ⟨A,c,by rw [HL.out]; rfl,aq14_own HW.out.o,HW.out.b.b⟩
end
section
open Go.RowKit Go.Shelf Go.Sort
set_option maxRecDepth 100000
def srt14 (zs:List Int):List Int:=zs.mergeSort fun x y => decide (x<=y)
theorem srt14_len (zs:List Int):(srt14 zs).length = zs.length:=by simp [srt14]
instance (S:Sv14) (i:Nat) (t:Th14):Decidable (Queues14 S i t):=by unfold Queues14; infer_instance
def want14 (S:Sv14):Nat->List Int
 | 0 => []
 | k + 1 => want14 S k ++ if Queues14 S k (gt14 S.H k) then [(k:Int)] else []
theorem want14_len (S:Sv14) (k:Nat):(want14 S k).length<=k:=by
 induction k with
 | zero => exact Nat.le_refl _
 | succ k ih => rw [want14,List.length_append]; split <;> simp <;> omega
def Heard14 (S:Sv14) (t:Th14):Prop:=t.s = 4/\(at14 usH S.H t.f).s = 5
def Queue14 (S:Sv14):Prop:=S.Q.length<=32/\(∀ j,j < S.H.length->Queues14 S j (gt14 S.H j)->¬ Heard14 S (gt14 S.H j))/\srt14 S.Q = want14 S S.H.length
end
section
open Go.RowKit
set_option maxRecDepth 100000
def Free14R (n:Nat) (l:List (Int × Int)):Prop:=∃ os,Done13 (cut13 n l) n os/\os.length = n
theorem free14R_iff {n:Nat} {l:List (Int × Int)} {os:List Nat} (h:Done13 (cut13 n l) n os):Free14R n l↔os.length = n:=by
 constructor
 ·
  rintro ⟨zs,h1,h2⟩;rw [h.same h1];exact h2
 · exact fun e => ⟨os,h,e⟩
def Fine14 (S:Sv14):Prop:=1<=S.q/\S.q<=1000/\Tidies14 S/\us14 usC S.C 0 = true/\Tickets14 S/\Threads14 S/\Locks14 S/\Queue14 S/\Free14R S.C.length (cArr14 S S.T.length)/\Free14R S.H.length (tArr14 S S.H.length)
theorem in13_cut (n:Nat) (l:List (Int × Int)):In13 (cut13 n l) n:=fun _ hp => cut13_lt hp
theorem free15_ring {n:Nat} {l:List (Int × Int)}:Free14R n l↔¬ Rng13 (cut13 n l):=by
 obtain ⟨os,hd⟩:=done13_ex (cut13 n l) n;rw [free14R_iff hd,hd.ring (in13_cut n l)];have:=hd.1.len;omega
def Ca15 (S:Sv14):List (Nat × Nat):=cut13 S.C.length (cArr14 S S.T.length)
def Bck15 (S:Sv14) (k j:Nat):Prop:=j < S.T.length/\(gt14 S.T j).u = true/\(gt14 S.T j).k = 2/\(gt14 S.T j).t = (k:Int)
end
end Go.Proofs.YtkdmnlihpebbkaaGreat
