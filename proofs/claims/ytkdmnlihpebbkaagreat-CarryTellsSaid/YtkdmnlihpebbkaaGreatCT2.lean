import Derived.Test.YtkdmnlihpebbkaaGreatCT1
import Derived.Deep.RegionHeld3
import Derived.Shelf.Spec.BitsCarry
import Derived.Laws.MakeOwn
import Derived.Laws.CopyRow
set_option linter.all false
set_option maxHeartbeats 3200000
namespace Go.Proofs.YtkdmnlihpebbkaaGreat
section
open Go.RowKit
theorem exq {α:Sort _} (a:α):∃ b,a = b:=⟨a,rfl⟩
structure Args2 (w:World) (x y:Value) (wr:World):Prop where
 below:Below w.heap.size w wr
 one:Blk wr w.heap.size 33 #[x]
 two:Blk wr (w.heap.size + 1) 33 #[y]
 res:Blk wr (w.heap.size + 2) 33 #[.slice none 0 0]
theorem Args2.start (w:World) (x y:Value):Args2 w x y (((w.alloc (.cells #[x] 33)).alloc (.cells #[y] 33)).alloc (.cells #[.slice none 0 0] 33)):=by
 refine ⟨(((Below.refl _ _).alloc (Nat.le_refl _) _).alloc (by simp) _).alloc (by simp; omega) _,((Blk.new w _ _).alloc _).alloc _,?_,?_⟩
 · simpa using (Blk.new (w.alloc (.cells #[x] 33)) 33 #[y]).alloc (.cells #[.slice none 0 0] 33)
 · simpa using Blk.new ((w.alloc (.cells #[x] 33)).alloc (.cells #[y] 33)) 33 #[.slice none 0 0]
theorem Args2.more {w wr w1:World} {x y:Value} (h:Args2 w x y wr) (hb:Below wr.heap.size wr w1):Args2 w x y w1 :=
 ⟨h.below.trans (hb.mono h.below.size),h.one.below hb h.one.lt,h.two.below hb h.two.lt,h.res.below hb h.res.lt⟩
theorem Args2.grown {w wr w1:World} {x y v:Value} {base n:Nat} {e:TypeId} {zs:List Value} (h:Args2 w x y wr) (hown:wr.ownsRow base e 1 v n zs) (hbase:w.heap.size + 3<=base) (o:Obj)
  (hg:(wr.alloc o).grownBy w1 v.ownBlock):Args2 w x y w1:=by
 have hrow:∀ k,v.ownBlock = some k->w.heap.size + 3<=k:=fun k hk => by have:=(hown.lt k hk).1; omega
 refine ⟨(h.below.alloc h.below.size _).grown hg (by have:=h.below.size; simp; omega) (fun k hk => by have:=hrow k hk; omega),?_,?_,?_⟩
 · exact (h.one.alloc _).grown hg (fun e => by have:=hrow _ e.symm; omega)
 · exact (h.two.alloc _).grown hg (fun e => by have:=hrow _ e.symm; omega)
 · exact (h.res.alloc _).grown hg (fun e => by have:=hrow _ e.symm; omega)
theorem rd_far {w wr W:World} {A:Option Addr} {xs:List Nat} {c d:Prop} (hr:Rd w w.heap.size A xs) (hb:Below w.heap.size w wr) (h:c/\d/\Below wr.heap.size wr W):Rd W W.heap.size A xs :=
 (hr.below (hb.trans (h.2.2.mono hb.size)) (Nat.le_refl _)).more (Nat.le_trans hb.size h.2.2.size)
theorem held_more {wr W W':World} {p q:Addr} {u v:Value} (hb:Below W.heap.size W W') (h:W.cell? p = some u/\W.cell? q = some v/\Below wr.heap.size wr W) :
  W'.cell? p = some u/\W'.cell? q = some v/\Below wr.heap.size wr W' :=
 ⟨(hb.cell (World.block_lt_of_cell? W _ h.1)).trans h.1,(hb.cell (World.block_lt_of_cell? W _ h.2.1)).trans h.2.1,h.2.2.trans (hb.mono h.2.2.size)⟩
def AddRel (xs ys:List Nat) (w:World) (x y:Value) (k ov:Nat) (v:Value) (wr:World):Prop :=
 ∃ ds A l c,v = .slice A l c/\ds.length = l/\l = k/\l<=c/\wr.ownsRow (w.heap.size + 3) 3 1 v l (ints ds)/\Dig ds/\V ds + 65536 ^ k * ov = V (xs.take k) + V (ys.take k)/\ov<=1/\Args2 w x y wr
theorem sum3 (a b c:Nat) (ha:a < 65536) (hb:b < 65536) (hc:c<=1):IntKind.i64.wrap (IntKind.i64.wrap ((a:Int) + (b:Int)) + (c:Int)) = ((a + b + c:Nat):Int):=by
 rw [IntWalk.i64_in ((a:Int) + (b:Int)) (by omega),IntWalk.i64_in _ (by omega)];omega
theorem add_step {xs ys ds:List Nat} {w wr w' w1:World} {a b:Value} {l ov X:Nat} {A A':Option Addr} {c n' c':Nat} (hl:ds.length = l) (hown:wr.ownsRow (w.heap.size + 3) 3 1 (.slice A l c) l (ints ds))
  (hd:Dig ds) (hv:V ds + 65536 ^ l * ov = V (xs.take l) + V (ys.take l)) (hX:nth xs l + nth ys l + ov = X) (hX2:X < 131072) (harg:Args2 w a b wr) (hb:Below wr.heap.size wr w')
  (hl1:(ds ++ [X % 65536]).length = n') (hc1:n'<=c') (hown1:w1.ownsRow (w.heap.size + 3) 3 1 (.slice A' n' c') n' (ints (ds ++ [X % 65536])))
  (hown':w'.ownsRow (w.heap.size + 3) 3 1 (.slice A l c) l (ints ds))
  (hg:(w'.alloc (.cells #[.int .i64 ((X % 65536:Nat):Int)] 3)).grownBy w1 (Value.slice A l c).ownBlock) :
  AddRel xs ys w a b (l + 1) (X / 65536) (.slice A' n' c') w1:=by
 have hn:n' = l + 1:=by rw [<- hl1,<- hl]; simp
 subst hn;refine ⟨ds ++ [X % 65536],A',_,c',rfl,hl1,rfl,hc1,hown1,hd.snoc (by omega),?_,by omega,(harg.more hb).grown hown' (Nat.le_refl _) _ hg⟩;rw [V_snoc,V_take_succ,V_take_succ,hl,Nat.pow_succ];have:=Nat.div_add_mod X 65536;generalize X / 65536 = q at *
 generalize X % 65536 = r at *
 subst this;generalize 65536 ^ l = P at *
 have e:P * (nth xs l + nth ys l + ov) = P * (65536 * q + r):=by rw [hX]
 grind
theorem owns_any_below {w w':World} {base:Nat} {e:TypeId} {n:Nat} {v:Value} {xs:List Value} (h:w.ownsRow base e 1 v n xs) (hb:Below w.heap.size w w'):w'.ownsRow base e 1 v n xs:=by
 have hlt:=h.lt;obtain ⟨h1,h2⟩:=h;refine ⟨h1,?_⟩;rcases h2 with h2 | ⟨g,cap,cur,rfl,hg,hh,r⟩
 · exact .inl h2
 · exact .inr ⟨g,cap,cur,rfl,hg,by rw [hb.block g (hlt g rfl).2]; exact hh,r⟩
theorem add_done {xs ys ds:List Nat} {w wr w1:World} {a b v:Value} {u:Value} {l n1 n2:Nat} (hl1:xs.length = n1) (hl2:ys.length = n2) (h1:n1<=l) (h2:n2<=l)
  (hv:V ds + 65536 ^ l * 0 = V (xs.take l) + V (ys.take l)) (harg:Args2 w a b wr) (hn:Num w1 wr.heap.size v (V ds)) (hb:Below wr.heap.size wr w1) :
  RetNum w (V xs + V ys) (.returned v) (w1.setCell ⟨w.heap.size + 2,0,none⟩ u):=by
 have hs:=harg.below.size;have hr:=harg.res.lt;rw [V_take_all xs l (by omega),V_take_all ys l (by omega)] at hv;have hv':V ds = V xs + V ys:=by simpa using hv
 rw [<- hv'];exact ⟨v,rfl,(hn.old (by simp; omega) _).more hs,(harg.more hb).below.setCell (by simp) _⟩
theorem add_any (A1 A2:Option Addr) (xs ys:List Nat) (n1 c1 n2 c2 M:Nat) (w:World) (hl1:xs.length = n1) (hl2:ys.length = n2) (hr1:Rd w w.heap.size A1 xs) (hr2:Rd w w.heap.size A2 ys)
  (hd1:Dig xs) (hd2:Dig ys) (hn1:n1<=M) (hn2:n2<=M) (hM:M<=100000) :
  Calls Tryz.prog 52 #[.agg #[.slice A1 n1 c1],.agg #[.slice A2 n2 c2]] w (RetNum w (V xs + V ys)):=by
 have HL1:=qz hl1;have HL2:=qz hl2;clear hl1 hl2;go_enter Tryz.func52,Tryz.ntmps52;go_wp2_with fail;go_loopw [5,6,7] (fun v o i wr => ∃ k ov:Nat,i = .int .i64 (k:Int)/\o = .int .i64 (ov:Int)/\k<=M + 1/\(k = M + 1->ov = 0)/\AddRel xs ys w (.slice A1 n1 c1) (.slice A2 n2 c2) k ov v wr) (fun _ _ i _ => M + 1 - (intOf i).toNat)
 case atStart => exact ⟨0,0,rfl,rfl,by omega,fun _ => rfl,[],none,0,0,rfl,rfl,rfl,Nat.le_refl _,World.ownsRow_nil _ _ _ _,Dig.nil,by simp [V],by omega,Args2.start _ _ _⟩
 case round =>
  obtain ⟨k,ov,rfl,rfl,hkM,hkz,ds,A,l,c,rfl,hl,rfl,hc,hown,hd,hv,hov,harg⟩:=hrel;have HL:=qz hl;have HO:=qz hown;have HV:=qz hv;have HK:=qz hkz;have ca:=harg.one.cell 0;have cb:=harg.two.cell 0;have hx0:=hd1.nth l;have hy0:=hd2.nth l;clear hl hown hv hkz
  have hcases:(l < n1)\/(¬ l < n1/\l < n2)\/(¬ l < n1/\¬ l < n2/\0 < ov)\/(¬ l < n1/\¬ l < n2/\¬ 0 < ov):=by omega
  have HM:Hid (l < n1\/l < n2\/0 < ov->l<=M/\(l = M->nth xs l + nth ys l + ov < 65536)):=qz (fun h => by
   have h1:=HK.out; have h2:=HL1.out; have h3:=HL2.out;refine ⟨by omega,fun hM => ?_⟩
   rw [nth_out (xs:=xs) (by omega),nth_out (xs:=ys) (by omega)]; omega)
  rcases hcases with ht | ht | ht | ht
  rotate_right
  ·
   have hz:ov = 0:=by omega
   subst hz;have hlM:l<=M + 1:=hkM;go_wp2_with fail;refine (cut_any A ds l c _ HL.out ((Rd.of_own HO.out)) hd (by omega) hc).mono ?_;rintro e w1 ⟨v,rfl,hn3,hb3⟩;obtain ⟨A3,n3,c3,rfl⟩:=hn3.shape;have hres:=(harg.more hb3).res;have hcell:=hres.cell 0;have hfro:=hres.frozen 0;have HN:=qz hn3;clear hn3;go_wp2_with fail
   exact bodyPost_ret (v:=.agg #[.slice A3 n3 c3]) (by simp [results,Tryz.results52,go_sem,hcell,hfro]) rfl
    (add_done HL1.out HL2.out (by omega) (by omega) HV.out harg HN.out hb3)
  all_goals
   have HM2:Hid (l<=M/\(l = M->nth xs l + nth ys l + ov < 65536)):=qz (HM.out (by omega));clear HM;go_wp2_with fail
   go_region_held3 (fun w' => w'.cell? ⟨w.heap.size,0,none⟩ = some (.slice A1 n1 c1)/\w'.cell? ⟨w.heap.size + 1,0,none⟩ = some (.slice A2 n2 c2)/\Below wr.heap.size wr w')
    (first | exact ⟨ca,cb,(Below.refl _ _).drew⟩ | assumption)
    (first
     | (go_at_call 71; with_reducible refine (digit_any A1 xs n1 c1 l _ HL1.out (rd_far hr1 harg.below (by assumption)) (by omega)).mono ?_; rintro e w' ⟨rfl,hb'⟩; have hS:=held_more hb' (by assumption))
     | (go_at_call 71; with_reducible refine (digit_any A2 ys n2 c2 l _ HL2.out (rd_far hr2 harg.below (by assumption)) (by omega)).mono ?_; rintro e w' ⟨rfl,hb'⟩; have hS:=held_more hb' (by assumption)))
   have hB:Below wr.heap.size wr w':=hS.2.2;have harg2:=harg.more hB;have HO2:=qz (owns_any_below HO.out hB);rw [sum3 _ _ _ hx0 hy0 hov];obtain ⟨X,hX⟩:=exq (nth xs l + nth ys l + ov);have hX2:X < 131072:=by omega
   have HM3:Hid (l = M->X < 65536):=qz (by rw [<- hX]; exact HM2.out.2);have hlM:l<=M:=HM2.out.1;rw [hX];have HX:=qz hX;clear hX hS HM2 ca cb ht
   go_wp2_with (at_builtin; go_loud (refine wpList_append_ints _ rfl (.tmp 36) (.tmp 39) 26 rfl (w.heap.size + 3) 3 Tryz.underlying26 info_int (.slice A l c) ds rfl (by rw [HL.out]; exact HO2.out.alloc _) (w'.heap.size + 1) (some ⟨w'.heap.size,0,none⟩) 1 [X % 65536] _ rfl rfl (Rd.one _ _ _) (by have:=HL.out; simp; omega) (by have:=harg2.res.lt; simp; omega) ?_); intro A' n' c' w1 hl1 hc1 hown1 hg1)
   go_roundw
   case rel => exact ⟨l + 1,X / 65536,by go_num,by go_num,by omega,fun h => by have:=HM3.out (by omega); omega,add_step HL.out HO.out hd HV.out HX.out hX2 harg hB hl1.out hc1 hown1.out HO2.out hg1⟩
   case measure => simp [intOf]; omega
def SubRel (xs ys:List Nat) (w:World) (x y:Value) (k un:Nat) (v:Value) (wr:World):Prop :=
 ∃ ds A l c,v = .slice A l c/\ds.length = l/\l = k/\l<=c/\wr.ownsRow (w.heap.size + 3) 3 1 v l (ints ds)/\Dig ds/\V ds + V (ys.take k) = V (xs.take k) + 65536 ^ k * un/\un<=1/\Args2 w x y wr
theorem sub_wrap (a b c X d:Nat) (ha:a < 65536) (hb:b < 65536) (hc:c<=1) (h:X + b + c = a + d) (hd:d<=65536) :
  IntKind.i64.wrap (IntKind.i64.wrap ((a:Int) - (b:Int)) - (c:Int)) = (X:Int) - (d:Int):=by
 rw [IntWalk.i64_in ((a:Int) - (b:Int)) (by omega),IntWalk.i64_in _ (by omega)];omega
theorem sub_step {xs ys ds:List Nat} {w wr w' w1:World} {a b:Value} {l un u' X:Nat} {A A':Option Addr} {c n' c':Nat} (hl:ds.length = l)
  (hd:Dig ds) (hv:V ds + V (ys.take l) = V (xs.take l) + 65536 ^ l * un) (hX:X + nth ys l + un = nth xs l + 65536 * u') (hX2:X < 65536) (hu:u'<=1) (harg:Args2 w a b wr) (hb:Below wr.heap.size wr w')
  (hl1:(ds ++ [X]).length = n') (hc1:n'<=c') (hown1:w1.ownsRow (w.heap.size + 3) 3 1 (.slice A' n' c') n' (ints (ds ++ [X])))
  (hown':w'.ownsRow (w.heap.size + 3) 3 1 (.slice A l c) l (ints ds))
  (hg:(w'.alloc (.cells #[.int .i64 (X:Int)] 3)).grownBy w1 (Value.slice A l c).ownBlock) :
  SubRel xs ys w a b (l + 1) u' (.slice A' n' c') w1:=by
 have hn:n' = l + 1:=by rw [<- hl1,<- hl]; simp
 subst hn;refine ⟨ds ++ [X],A',_,c',rfl,hl1,rfl,hc1,hown1,hd.snoc hX2,?_,hu,(harg.more hb).grown hown' (Nat.le_refl _) _ hg⟩;rw [V_snoc,V_take_succ,V_take_succ,hl,Nat.pow_succ];generalize 65536 ^ l = P at *
 have e:P * (X + nth ys l + un) = P * (nth xs l + 65536 * u'):=by rw [hX]
 grind
theorem sub_done {xs ys ds:List Nat} {w wr w1:World} {a b v:Value} {u:Value} {l n1 un:Nat} (hl1:xs.length = n1) (h1:l = n1) (hdl:ds.length = l) (hx:Dig xs) (hdd:Dig ds) (hle:V ys<=V xs)
  (hv:V ds + V (ys.take l) = V (xs.take l) + 65536 ^ l * un) (harg:Args2 w a b wr) (hn:Num w1 wr.heap.size v (V ds)) (hb:Below wr.heap.size wr w1) :
  RetNum w (V xs - V ys) (.returned v) (w1.setCell ⟨w.heap.size + 2,0,none⟩ u):=by
 have hs:=harg.below.size;have hr:=harg.res.lt;have hxl:=V_lt hx;have hdl':=V_lt hdd;rw [hdl] at hdl';rw [hl1,<- h1] at hxl;rw [V_take_all xs l (by omega)] at hv;have hys:V ys = V (ys.take l) + 65536 ^ (ys.take l).length * V (ys.drop l):=by rw [<- V_append,List.take_append_drop]
 have htl:V (ys.take l) = V ys:=by
  rcases Nat.lt_or_ge l ys.length with h | h
  ·
   rw [show (ys.take l).length = l by simp; omega] at hys;rcases Nat.eq_zero_or_pos (V (ys.drop l)) with h0 | h0
   · rw [h0] at hys; omega
   ·
    have:=Nat.mul_le_mul_left (65536 ^ l) h0;omega
  · exact V_take_all ys l h
 rw [htl] at hv
 have hun:un = 0:=by
  rcases Nat.eq_zero_or_pos un with h0 | h0
  · exact h0
  ·
   have:=Nat.mul_le_mul_left (65536 ^ l) h0;omega
 subst hun;have hv':V ds = V xs - V ys:=by simp at hv; omega
 rw [<- hv'];exact ⟨v,rfl,(hn.old (by simp; omega) _).more hs,(harg.more hb).below.setCell (by simp) _⟩
theorem sub_any (A1 A2:Option Addr) (xs ys:List Nat) (n1 c1 n2 c2 M:Nat) (w:World) (hl1:xs.length = n1) (hl2:ys.length = n2) (hr1:Rd w w.heap.size A1 xs) (hr2:Rd w w.heap.size A2 ys)
  (hd1:Dig xs) (hd2:Dig ys) (hn1:n1<=M) (hn2:n2<=M) (hM:M<=100000) (hle:V ys<=V xs) :
  Calls Tryz.prog 87 #[.agg #[.slice A1 n1 c1],.agg #[.slice A2 n2 c2]] w (RetNum w (V xs - V ys)):=by
 have HL1:=qz hl1;have HL2:=qz hl2;clear hl1 hl2;go_enter Tryz.func87,Tryz.ntmps87;go_wp2_with fail;go_loopw [5,6,7] (fun v o i wr => ∃ k un:Nat,i = .int .i64 (k:Int)/\o = .int .i64 (un:Int)/\k<=n1/\SubRel xs ys w (.slice A1 n1 c1) (.slice A2 n2 c2) k un v wr) (fun _ _ i _ => n1 - (intOf i).toNat)
 case atStart => exact ⟨0,0,rfl,rfl,by omega,[],none,0,0,rfl,rfl,rfl,Nat.le_refl _,World.ownsRow_nil _ _ _ _,Dig.nil,by simp [V],by omega,Args2.start _ _ _⟩
 case round =>
  obtain ⟨k,un,rfl,rfl,hk,ds,A,l,c,rfl,hl,rfl,hc,hown,hd,hv,hun,harg⟩:=hrel;have HL:=qz hl;have HO:=qz hown;have HV:=qz hv;have ca:=harg.one.cell 0;have cb:=harg.two.cell 0;have hx0:=hd1.nth l;have hy0:=hd2.nth l;clear hl hown hv;by_cases ht:l < n1
  ·
   go_wp2_with fail
   go_region_held3 (fun w' => w'.cell? ⟨w.heap.size,0,none⟩ = some (.slice A1 n1 c1)/\w'.cell? ⟨w.heap.size + 1,0,none⟩ = some (.slice A2 n2 c2)/\Below wr.heap.size wr w')
    (first | exact ⟨ca,cb,(Below.refl _ _).drew⟩ | assumption)
    (first
     | (go_at_call 71; with_reducible refine (digit_any A1 xs n1 c1 l _ HL1.out (rd_far hr1 harg.below (by assumption)) (by omega)).mono ?_; rintro e w' ⟨rfl,hb'⟩; have hS:=held_more hb' (by assumption))
     | (go_at_call 71; with_reducible refine (digit_any A2 ys n2 c2 l _ HL2.out (rd_far hr2 harg.below (by assumption)) (by omega)).mono ?_; rintro e w' ⟨rfl,hb'⟩; have hS:=held_more hb' (by assumption)))
   have hB:Below wr.heap.size wr w':=hS.2.2;have harg2:=harg.more hB;have HO2:=qz (owns_any_below HO.out hB);by_cases hlt:nth xs l < nth ys l + un
   ·
    obtain ⟨X,hX⟩:∃ X,X + nth ys l + un = nth xs l + 65536:=⟨nth xs l + 65536 - (nth ys l + un),by omega⟩
    rw [sub_wrap _ _ _ X 65536 hx0 hy0 hun hX (by omega)];have hX2:X < 65536:=by omega
    have HX:Hid (X + nth ys l + un = nth xs l + 65536 * 1):=qz (by omega);clear hX hS ca cb hlt
    go_wp2_with (at_builtin; go_loud (refine wpList_append_ints _ rfl (.tmp 29) (.tmp 31) 26 rfl (w.heap.size + 3) 3 Tryz.underlying26 info_int (.slice A l c) ds rfl (by rw [HL.out]; exact HO2.out.alloc _) (w'.heap.size + 1) (some ⟨w'.heap.size,0,none⟩) 1 [X] _ rfl rfl (Rd.one _ _ _) (by have:=HL.out; simp; omega) (by have:=harg2.res.lt; simp; omega) ?_); intro A' n' c' w1 hl1 hc1 hown1 hg1)
    go_roundw
    case rel => exact ⟨l + 1,1,by go_num,by go_num,by omega,sub_step HL.out hd HV.out HX.out hX2 (by omega) harg hB hl1.out hc1 hown1.out HO2.out hg1⟩
    case measure => simp [intOf]; omega
   ·
    obtain ⟨X,hX⟩:∃ X,X + nth ys l + un = nth xs l + 0:=⟨nth xs l - (nth ys l + un),by omega⟩
    rw [sub_wrap _ _ _ X 0 hx0 hy0 hun hX (by omega)];have hX2:X < 65536:=by omega
    have HX:Hid (X + nth ys l + un = nth xs l + 65536 * 0):=qz (by omega);clear hX hS ca cb hlt
    go_wp2_with (at_builtin; go_loud (refine wpList_append_ints _ rfl (.tmp 29) (.tmp 31) 26 rfl (w.heap.size + 3) 3 Tryz.underlying26 info_int (.slice A l c) ds rfl (by rw [HL.out]; exact HO2.out.alloc _) (w'.heap.size + 1) (some ⟨w'.heap.size,0,none⟩) 1 [X] _ rfl rfl (Rd.one _ _ _) (by have:=HL.out; simp; omega) (by have:=harg2.res.lt; simp; omega) ?_); intro A' n' c' w1 hl1 hc1 hown1 hg1)
    go_roundw
    case rel => exact ⟨l + 1,0,by go_num,by go_num,by omega,sub_step HL.out hd HV.out HX.out hX2 (by omega) harg hB hl1.out hc1 hown1.out HO2.out hg1⟩
    case measure => simp [intOf]; omega
  ·
   go_wp2_with fail;refine (cut_any A ds l c _ HL.out ((Rd.of_own HO.out)) hd (by omega) hc).mono ?_;rintro e w1 ⟨v,rfl,hn3,hb3⟩;obtain ⟨A3,n3,c3,rfl⟩:=hn3.shape;have hres:=(harg.more hb3).res;have hcell:=hres.cell 0;have hfro:=hres.frozen 0;have HN:=qz hn3;clear hn3;go_wp2_with fail
   exact bodyPost_ret (v:=.agg #[.slice A3 n3 c3]) (by simp [results,Tryz.results87,go_sem,hcell,hfro]) rfl
    (sub_done HL1.out (by omega) HL.out hd1 hd hle HV.out harg HN.out hb3)
theorem nth_set {ds:List Nat} {j r i:Nat} (hj:j < ds.length):nth (ds.set j r) i = if i = j then r else nth ds i:=by
 simp only [nth,List.getD_eq_getElem?_getD,List.getElem?_set];by_cases h:j = i
 · subst h; simp [hj]
 ·
  have:¬ i = j:=fun e => h e.symm
  simp [h,this]
theorem Dig.set {ds:List Nat} (h:Dig ds) {j r:Nat} (hr:r < 65536):Dig (ds.set j r):=fun d hd => by
 rcases List.mem_or_eq_of_mem_set hd with h1 | h1
 · exact h d h1
 · omega
theorem V_set (ds:List Nat) (j r:Nat) (hj:j < ds.length):V (ds.set j r) + 65536 ^ j * nth ds j = V ds + 65536 ^ j * r:=by
 induction ds generalizing j with
 | nil => simp at hj
 | cons d t ih =>
  cases j with
  | zero => simp [List.set,V,nth]; omega
  | succ j =>
   have:=ih j (by simpa using hj);simp only [List.set,V,nth_cons,Nat.pow_succ];generalize V (t.set j r) = a at *
   generalize 65536 ^ j = P at *
   grind
structure MulMem (w:World) (x y:Value) (ds:List Nat) (wr:World):Prop where
 args:Args2 w x y wr
 row:Blk wr (w.heap.size + 3) 3 (ints ds).toArray
theorem MulMem.cell {w wr:World} {x y:Value} {ds:List Nat} (h:MulMem w x y ds wr) {j:Nat} (hj:j < ds.length):wr.cell? ⟨w.heap.size + 3,j,none⟩ = some (.int .i64 ((nth ds j:Nat):Int)):=by
 rw [h.row.cell j];simpa using ints_get hj
theorem MulMem.more {w wr w1:World} {x y:Value} {ds:List Nat} (h:MulMem w x y ds wr) (hb:Below wr.heap.size wr w1):MulMem w x y ds w1:=⟨h.args.more hb,h.row.below hb h.row.lt⟩
theorem MulMem.store {w wr:World} {x y:Value} {ds:List Nat} (h:MulMem w x y ds wr) (j r:Nat):MulMem w x y (ds.set j r) (wr.setCell ⟨w.heap.size + 3,j,none⟩ (.int .i64 (r:Int))):=by
 refine ⟨⟨h.args.below.setCell (by simp) _,h.args.one.far (by simp) _,h.args.two.far (by simp) _,h.args.res.far (by simp) _⟩,?_⟩;have:=h.row.set_ j (.int .i64 (r:Int));have e:(ints ds).toArray.setIfInBounds j (.int .i64 (r:Int)) = (ints (ds.set j r)).toArray:=by simp [ints,List.map_set]
 rw [e] at this;exact this
theorem MulMem.start {w w0 w1:World} {x y:Value} {N:Nat} {cur:List Value} (h0:Args2 w x y w0) (hs:w0.heap.size = w.heap.size + 3)
  {G:Nat} (hG:G = w.heap.size + 3) (hown:w1.ownsRow (w.heap.size + 3) 3 1 (.slice (some ⟨G,0,none⟩) N N) N cur) (hcur:cur = ints (List.replicate N 0)) (hg:w0.grownBy w1 none):MulMem w x y (List.replicate N 0) w1:=by
 subst hG;refine ⟨⟨h0.below.grown hg (by omega) (by intro k hk; cases hk),h0.one.grown hg (by simp),h0.two.grown hg (by simp),h0.res.grown hg (by simp)⟩,?_⟩;rcases hown.2 with ⟨h,_⟩ | ⟨g,cap,c,hv,_,hh,_,_,hsz,ht⟩
 · injection h with h; cases h
 ·
  injection hv with hv _ hcap
  injection hv with hv
  injection hv with hv
  subst hv hcap;unfold Blk;rw [hh]
  have:c = (ints (List.replicate N 0)).toArray:=by
   rw [<- hcur,<- ht,List.take_of_length_le (by simp; omega)]
  rw [this]
def OutRel (xs ys:List Nat) (n2 N:Nat) (w:World) (x y:Value) (i:Nat) (wr:World):Prop :=
 ∃ ds,ds.length = N/\Dig ds/\V ds = V (xs.take i) * V ys/\(∀ j,i + n2<=j->nth ds j = 0)/\MulMem w x y ds wr
def InRel (xs ys:List Nat) (n2 N:Nat) (w:World) (x y:Value) (i k o:Nat) (wr:World):Prop :=
 ∃ ds,ds.length = N/\Dig ds/\V ds + 65536 ^ (i + k) * o = V (xs.take i) * V ys + 65536 ^ i * nth xs i * V (ys.take k)/\(∀ j,i + n2<=j->i + k<=j->nth ds j = 0)/\MulMem w x y ds wr
theorem in_start {xs ys:List Nat} {n2 N:Nat} {w wr:World} {x y:Value} {i:Nat} (h:OutRel xs ys n2 N w x y i wr):InRel xs ys n2 N w x y i 0 0 wr:=by
 obtain ⟨ds,h1,h2,h3,h4,h5⟩:=h;exact ⟨ds,h1,h2,by simp [V,h3],fun j hj _ => h4 j hj,h5⟩
theorem in_end {xs ys:List Nat} {n2 N:Nat} {w wr:World} {x y:Value} {i k:Nat} (h:InRel xs ys n2 N w x y i k 0 wr) (hy:ys.length = n2) (hk:n2<=k) (hk2:k<=n2 + 1):OutRel xs ys n2 N w x y (i + 1) wr:=by
 obtain ⟨ds,h1,h2,h3,h4,h5⟩:=h;refine ⟨ds,h1,h2,?_,fun j hj => h4 j (by omega) (by omega),h5⟩;rw [V_take_all ys k (by omega)] at h3;rw [V_take_succ];generalize 65536 ^ i = P at *
 grind
theorem in_step {xs ys ds:List Nat} {n2 N:Nat} {w w':World} {x y:Value} {i k o X:Nat} (hl:ds.length = N) (hd:Dig ds) (hv:V ds + 65536 ^ (i + k) * o = V (xs.take i) * V ys + 65536 ^ i * nth xs i * V (ys.take k))
  (hz:∀ j,i + n2<=j->i + k<=j->nth ds j = 0) (hm:MulMem w x y ds w') (hX:nth ds (i + k) + nth xs i * nth ys k + o = X) (hj:i + k < N) :
  InRel xs ys n2 N w x y i (k + 1) (X / 65536) (w'.setCell ⟨w.heap.size + 3,i + k,none⟩ (.int .i64 ((X % 65536:Nat):Int))):=by
 refine ⟨ds.set (i + k) (X % 65536),by simp [hl],hd.set (by omega),?_,fun j h1 h2 => ?_,hm.store _ _⟩
 ·
  have h1:=V_set ds (i + k) (X % 65536) (by omega);rw [V_take_succ];have h2:=Nat.div_add_mod X 65536;rw [show i + (k + 1) = (i + k) + 1 by omega,Nat.pow_succ];rw [Nat.pow_add] at *
  generalize X / 65536 = q at *
  generalize X % 65536 = r at *
  generalize V (ds.set (i + k) r) = v' at *
  generalize 65536 ^ i = P at *
  generalize 65536 ^ k = R at *
  have e:P * R * (nth ds (i + k) + nth xs i * nth ys k + o) = P * R * (65536 * q + r):=by rw [hX,h2]
  grind
 ·
  rw [nth_set (by omega),if_neg (by omega)];exact hz j h1 (by omega)
theorem mul_prod {a b:Nat} (ha:a < 65536) (hb:b < 65536):a * b<=4294836225:=by
 have:=Nat.mul_le_mul (show a<=65535 by omega) (show b<=65535 by omega);omega
theorem mul_wrap (d a b o:Nat) (hd:d < 65536) (ha:a < 65536) (hb:b < 65536) (ho:o < 65536) :
  IntKind.i64.wrap (IntKind.i64.wrap ((d:Int) + IntKind.i64.wrap ((a:Int) * (b:Int))) + (o:Int)) = ((d + a * b + o:Nat):Int):=by
 have h:=mul_prod ha hb;have e:(a:Int) * (b:Int) = ((a * b:Nat):Int):=by simp
 rw [e];generalize a * b = p at *
 rw [IntWalk.i64_in (p:Int) (by omega),IntWalk.i64_in ((d:Int) + (p:Int)) (by omega),IntWalk.i64_in _ (by omega)];omega
theorem Rd.of_row {w:World} {g:Nat} {t:TypeId} {ds:List Nat} (h:Blk w g t (ints ds).toArray):Rd w w.heap.size (some ⟨g,0,none⟩) ds:=by
 intro _;refine ⟨g,0,rfl,h.lt,fun k hk => ?_⟩;rw [h.cell (0 + k),Nat.zero_add];simpa using ints_get hk
theorem World.size_three (w:World) (a b c:Obj):(((w.alloc a).alloc b).alloc c).heap.size = w.heap.size + 3:=by simp
theorem zeros_nth (N j:Nat):nth (List.replicate N 0) j = 0:=by
 simp only [nth,List.getD_eq_getElem?_getD,List.getElem?_replicate];split <;> rfl
theorem zeros_dig (N:Nat):Dig (List.replicate N 0):=fun d hd => by
 have:=(List.mem_replicate.1 hd).2;omega
theorem zeros_V (N:Nat):V (List.replicate N 0) = 0:=by
 induction N with
 | zero => rfl
 | succ n ih => rw [List.replicate_succ,V,ih]
theorem madeCells_ints (N:Nat):(madeCells (Value.int .i64 0).cells (N * 1)).toList = ints (List.replicate N 0):=by
 have e:(madeCells (Value.int .i64 0).cells (N * 1)).toList = (List.range N).map fun x => [Value.int IntKind.i64 0][x % 1]?.getD default:=by simp [madeCells,Value.cells]
 rw [e];simp only [ints,List.map_replicate];apply List.ext_getElem
 · simp
 ·
  intro i h1 h2;simp [Nat.mod_one]
theorem rd_far4 {w wr W:World} {A:Option Addr} {xs:List Nat} {c1 c2 c3 c4:Prop} (hr:Rd w w.heap.size A xs) (hb:Below w.heap.size w wr) (h:c1/\c2/\c3/\c4/\Below wr.heap.size wr W):Rd W W.heap.size A xs :=
 rd_far hr hb (c:=c1) (d:=c2) ⟨h.1,h.2.1,h.2.2.2.2⟩
theorem held_more4 {wr W W':World} {p q r s:Addr} {u v u' v':Value} (hb:Below W.heap.size W W') (h:W.cell? p = some u/\W.cell? q = some v/\W.cell? r = some u'/\W.cell? s = some v'/\Below wr.heap.size wr W) :
  W'.cell? p = some u/\W'.cell? q = some v/\W'.cell? r = some u'/\W'.cell? s = some v'/\Below wr.heap.size wr W' :=
 ⟨(
  hb.cell (World.block_lt_of_cell? W _ h.1)).trans h.1,(hb.cell (World.block_lt_of_cell? W _ h.2.1)).trans h.2.1,(hb.cell (World.block_lt_of_cell? W _ h.2.2.1)).trans h.2.2.1,
  (hb.cell (World.block_lt_of_cell? W _ h.2.2.2.1)).trans h.2.2.2.1,h.2.2.2.2.trans (hb.mono h.2.2.2.2.size)⟩
theorem mul_done {xs ys ds:List Nat} {w wr w1:World} {a b v:Value} {u:Value} {n1:Nat} (hl1:xs.length = n1) (hv:V ds = V (xs.take n1) * V ys) (harg:Args2 w a b wr) (hn:Num w1 wr.heap.size v (V ds)) (hb:Below wr.heap.size wr w1) :
  RetNum w (V xs * V ys) (.returned v) (w1.setCell ⟨w.heap.size + 2,0,none⟩ u):=by
 have hs:=harg.below.size;have hr:=harg.res.lt;rw [V_take_all xs n1 (by omega)] at hv;rw [<- hv];exact ⟨v,rfl,(hn.old (by simp; omega) _).more hs,(harg.more hb).below.setCell (by simp) _⟩
theorem mul_any (A1 A2:Option Addr) (xs ys:List Nat) (n1 c1 n2 c2:Nat) (w:World) (hl1:xs.length = n1) (hl2:ys.length = n2) (hr1:Rd w w.heap.size A1 xs) (hr2:Rd w w.heap.size A2 ys)
  (hd1:Dig xs) (hd2:Dig ys) (hn1:n1<=100000) (hn2:n2<=100000) :
  Calls Tryz.prog 53 #[.agg #[.slice A1 n1 c1],.agg #[.slice A2 n2 c2]] w (RetNum w (V xs * V ys)):=by
 have HL1:=qz hl1;have HL2:=qz hl2;clear hl1 hl2;obtain ⟨N,hN⟩:∃ N,N = n1 + n2 + 1:=⟨_,rfl⟩
 have HN:=qz hN;have hNb:N<=200001:=by omega
 have h0:=Args2.start w (.slice A1 n1 c1) (.slice A2 n2 c2);clear hN;obtain ⟨i0,hi0,hz0,hz1,hz2⟩:=info_parts info_int;go_enter Tryz.func53,Tryz.ntmps53
 go_wp2_with ((with_reducible refine wpList_make_full _ rfl (.tmp 17) (.tmp 17) 26 rfl (w.heap.size + 3) 3 i0 (.int .i64 0) 1 Tryz.underlying26 hi0 hz0 hz1 .i64 .i64 _ _ N rfl rfl (by have:=HN.out; omega) (by have:=HN.out; omega) (by rw [hz2]; omega) (by unfold maxLen; omega) (by simp) ?_); intro w1 hown1 hg1)
 have hm0:MulMem w (.slice A1 n1 c1) (.slice A2 n2 c2) (List.replicate N 0) w1:=MulMem.start h0 (World.size_three _ _ _ _) (World.size_three _ _ _ _) hown1 (madeCells_ints N) hg1;have HM0:=qz hm0;clear hown1 hg1 h0 hm0 hz0 hz1 hz2
 go_loopw [6] (fun i wr => ∃ k:Nat,i = .int .i64 (k:Int)/\k<=n1/\OutRel xs ys n2 N w (.slice A1 n1 c1) (.slice A2 n2 c2) k wr) (fun i _ => n1 - (intOf i).toNat)
 case atStart => exact ⟨0,rfl,by omega,List.replicate N 0,by simp,zeros_dig N,by rw [zeros_V]; simp [V],fun j _ => zeros_nth N j,HM0.out⟩
 case round =>
  obtain ⟨i,rfl,hi,hrel⟩:=hrel;clear HM0;have HR:=qz hrel;have ho:=hrel;obtain ⟨ds,hdl,hdd,hvv,hzz,hmm⟩:=ho;have HVV:=qz hvv;have HDL:=qz hdl;have ca0:=hmm.args.one.cell 0;have cb0:=hmm.args.two.cell 0;clear hrel hvv hzz hdl;by_cases hti:i < n1
  ·
   go_wp2_with fail;have hst:=qz (in_start HR.out);clear hmm hdd ca0 cb0 HVV HDL;obtain ⟨wo,hwo⟩:∃ wo:World,wo = wr:=⟨_,rfl⟩
   go_loopw [7,8] (fun o k wr => ∃ kk oo:Nat,k = .int .i64 (kk:Int)/\o = .int .i64 (oo:Int)/\kk<=n2 + 1/\oo < 65536/\(kk = n2 + 1->oo = 0)/\InRel xs ys n2 N w (.slice A1 n1 c1) (.slice A2 n2 c2) i kk oo wr) (fun _ k _ => n2 + 1 - (intOf k).toNat)
   case atStart => exact ⟨0,0,rfl,rfl,by omega,by omega,fun _ => rfl,hst.out⟩
   case round =>
    clear hst HR;obtain ⟨k,o,rfl,rfl,hk,ho,hkz,hin⟩:=hrel;have HIN:=qz hin;obtain ⟨ds,hdl,hdd,hvv,hzz,hmm⟩:=hin;have HKZ:=qz hkz;have HVV:=qz hvv;have HDL:=qz hdl;have HZZ:=qz hzz;have HMM:=qz hmm;have ca:=hmm.args.one.cell 0;have cb:=hmm.args.two.cell 0;clear hkz hvv hzz hdl hmm;have hcases:(k < n2)\/(¬ k < n2/\0 < o)\/(¬ k < n2/\¬ 0 < o):=by omega
    rcases hcases with ht | ht | ht
    rotate_right
    ·
     have hz:o = 0:=by omega
     subst hz;have HE:=qz (in_end HIN.out HL2.out (by omega) hk);go_wp2_with fail;go_roundw
     case rel => exact ⟨i + 1,by go_num,by omega,HE.out⟩
     case measure => simp [intOf]; omega
    all_goals
     have HKK:Hid (k<=n2):=qz (by have:=HKZ.out; omega);have cd:wr.cell? ⟨w.heap.size + 1 + 1 + 1,i + k,none⟩ = some (.int .i64 ((nth ds (i + k):Nat):Int)):=HMM.out.cell (by have:=HDL.out; have:=HN.out; have:=HKK.out; omega);obtain ⟨b1,o1,hA1,hb1,cx⟩:=(hr1.below HMM.out.args.below (Nat.le_refl _)).at_ (k:=i) (by have:=HL1.out; omega);have HA1:=qz hA1
     subst hA1;have hj0:(0:Int)<=(i:Int) + (k:Int):=by omega
     have hj1:(i:Int) + (k:Int) < (N:Int):=by have:=HKK.out; have:=HN.out; omega
     have hjw:IntKind.i64.wrap ((i:Int) + (k:Int)) = (i:Int) + (k:Int):=IntWalk.i64_in _ (by omega);have hjn:((i:Int) + (k:Int)).toNat = i + k:=by omega
     have hi0':(0:Int)<=(i:Int):=by omega
     have hi1':(i:Int) < (n1:Int):=by omega
     go_wp2_with fail
     go_region_held3 (fun w' => w'.cell? ⟨w.heap.size,0,none⟩ = some (.slice (some ⟨b1,o1,none⟩) n1 c1)/\w'.cell? ⟨w.heap.size + 1,0,none⟩ = some (.slice A2 n2 c2) /\
       w'.cell? ⟨w.heap.size + 1 + 1 + 1,i + k,none⟩ = some (.int .i64 ((nth ds (i + k):Nat):Int))/\w'.cell? ⟨b1,o1 + i,none⟩ = some (.int .i64 ((nth xs i:Nat):Int))/\Below wr.heap.size wr w')
      (first | exact ⟨ca,cb,cd,cx,(Below.refl _ _).drew⟩ | assumption)
      (first
       | (go_at_call 71; with_reducible refine (digit_any A2 ys n2 c2 k _ HL2.out (rd_far4 hr2 HMM.out.args.below (by assumption)) (by omega)).mono ?_; rintro e w' ⟨rfl,hb'⟩; have hS:=held_more4 hb' (by assumption)))
     have hB:Below wr.heap.size wr w':=hS.2.2.2.2;have HM2:=qz (HMM.out.more hB);have hdj:=hdd.nth (i + k);have hxi:=hd1.nth i;have hyk:=hd2.nth k;rw [mul_wrap _ _ _ _ hdj hxi hyk ho];have hX2:nth ds (i + k) + nth xs i * nth ys k + o < 4294967296:=by have:=mul_prod hxi hyk; omega
     have hXz:¬ k < n2->nth ds (i + k) + nth xs i * nth ys k + o < 65536:=fun h => by
      rw [HZZ.out (i + k) (by omega) (Nat.le_refl _),nth_out (xs:=ys) (by have:=HL2.out; omega)]; omega
     obtain ⟨X,hX⟩:=exq (nth ds (i + k) + nth xs i * nth ys k + o);have hXb:X < 4294967296:=by omega
     have HXZ:Hid (¬ k < n2->X < 65536):=qz (by rw [<- hX]; exact hXz);rw [hX];have HX:=qz hX;have cd2:=hS.2.2.1;have cf2:w'.frozen? ⟨w.heap.size + 1 + 1 + 1,i + k,none⟩ = false:=HM2.out.row.frozen (i + k);clear hX hX2 hXz hS ca cb cd cx hdj hxi hyk;go_wp2_with fail;go_roundw
     case rel => exact ⟨k + 1,X / 65536,by go_num,by go_num,by have:=HKK.out; omega,by omega,fun h => by have:=HXZ.out (by omega); omega,in_step HDL.out hdd HVV.out HZZ.out HM2.out HX.out (by have:=HKK.out; have:=HN.out; omega)⟩
     case measure => simp [intOf]; have:=HKK.out; omega
  ·
   have hie:i = n1:=by omega
   subst hie;have hblk:=Rd.of_row hmm.row;have hres0:=hmm.args;go_wp2_with fail;refine (cut_any _ ds N N _ HDL.out hblk hdd (by omega) (Nat.le_refl _)).mono ?_;rintro e w2 ⟨v,rfl,hn3,hb3⟩;obtain ⟨A3,n3,c3,rfl⟩:=hn3.shape;have hres:=(hres0.more hb3).res;have hcell:=hres.cell 0;have hfro:=hres.frozen 0;have HNN:=qz hn3;clear hn3;go_wp2_with fail
   exact bodyPost_ret (v:=.agg #[.slice A3 n3 c3]) (by simp [results,Tryz.results53,go_sem,hcell,hfro]) rfl
    (mul_done HL1.out HVV.out hres0 HNN.out hb3)
def cmpI (a b:Nat):Int:=if a < b then -1 else if b < a then 1 else 0
theorem cmpI_lt {a b:Nat} (h:a < b):cmpI a b = -1:=by simp [cmpI,h]
theorem cmpI_gt {a b:Nat} (h:b < a):cmpI a b = 1:=by simp [cmpI,h]; omega
theorem cmpI_eq {a b:Nat} (h:a = b):cmpI a b = 0:=by simp [cmpI,h]
structure Box2 (w:World) (x y:Value) (wr:World):Prop where
 below:Below w.heap.size w wr
 one:Blk wr w.heap.size 33 #[x]
 two:Blk wr (w.heap.size + 1) 33 #[y]
theorem Box2.start (w:World) (x y:Value):Box2 w x y ((w.alloc (.cells #[x] 33)).alloc (.cells #[y] 33)):=by
 refine ⟨((Below.refl _ _).alloc (Nat.le_refl _) _).alloc (by simp) _,(Blk.new w _ _).alloc _,?_⟩;simpa using Blk.new (w.alloc (.cells #[x] 33)) 33 #[y]
theorem Box2.more {w wr w1:World} {x y:Value} (h:Box2 w x y wr) (hb:Below wr.heap.size wr w1):Box2 w x y w1 :=
 ⟨h.below.trans (hb.mono h.below.size),h.one.below hb h.one.lt,h.two.below hb h.two.lt⟩
theorem drop_lt {xs ys:List Nat} {k:Nat} (hx:Dig xs) (h:V (xs.drop (k + 1)) = V (ys.drop (k + 1))) (hl:nth xs k < nth ys k):V xs < V ys:=by
 have ex:V xs = V (xs.take k) + 65536 ^ k * V (xs.drop k):=by
  by_cases hk:k<=xs.length
  ·
   have:=V_append (xs.take k) (xs.drop k);rw [List.take_append_drop,show (xs.take k).length = k by simp; omega] at this;exact this
  · rw [List.drop_eq_nil_of_le (show xs.length<=k by omega),List.take_of_length_le (show xs.length<=k by omega)]; simp [V]
 have ey:65536 ^ k * V (ys.drop k)<=V ys:=by
  by_cases hk:k<=ys.length
  ·
   have:=V_append (ys.take k) (ys.drop k);rw [List.take_append_drop,show (ys.take k).length = k by simp; omega] at this;omega
  · rw [nth_out (xs:=ys) (by omega)] at hl; omega
 have hlow:V (xs.take k) < 65536 ^ k:=by
  have h1:=V_lt (hx.take k);have h2:65536 ^ (xs.take k).length<=65536 ^ k:=Nat.pow_le_pow_right (by omega) (by simp; omega);omega
 rw [V_drop xs k] at ex;rw [V_drop ys k,<- h] at ey;generalize V (xs.drop (k + 1)) = t at *
 have h3:65536 ^ k * (nth xs k + 65536 * t + 1)<=65536 ^ k * (nth ys k + 65536 * t):=Nat.mul_le_mul_left _ (by omega);rw [Nat.mul_add _ _ 1] at h3;omega
def CmpRel (xs ys:List Nat) (w:World) (x y:Value) (k:Nat) (wr:World):Prop:=V (xs.drop k) = V (ys.drop k)/\Box2 w x y wr
theorem cmp_loop (A1 A2:Option Addr) (xs ys:List Nat) (n1 c1 n2 c2 M:Nat) (w:World) (hl1:xs.length = n1) (hl2:ys.length = n2) (hr1:Rd w w.heap.size A1 xs) (hr2:Rd w w.heap.size A2 ys)
  (hd1:Dig xs) (hd2:Dig ys) (hn1:n1<=M) (hn2:n2<=M) (hM:M<=100000) :
  Calls Tryz.prog 86 #[.agg #[.slice A1 n1 c1],.agg #[.slice A2 n2 c2]] w fun e w' => e = .returned (.int .i64 (cmpI (V xs) (V ys)))/\Below w.heap.size w w':=by
 have HL1:=qz hl1;have HL2:=qz hl2;clear hl1 hl2;have hcases:n1 < n2\/¬ n1 < n2:=by omega
 rcases hcases with hcmp | hcmp
 all_goals
  go_enter Tryz.func86,Tryz.ntmps86;go_wp2_with fail;go_loopw [6] (fun i wr => ∃ k:Nat,i = .int .i64 ((k:Int) - 1)/\k<=M/\CmpRel xs ys w (.slice A1 n1 c1) (.slice A2 n2 c2) k wr) (fun i _ => (intOf i + 1).toNat)
  case atStart => first
   | exact ⟨n2,rfl,hn2,by rw [List.drop_eq_nil_of_le (by have:=HL1.out; omega),List.drop_eq_nil_of_le (by have:=HL2.out; omega)],Box2.start _ _ _⟩
   | exact ⟨n1,rfl,hn1,by rw [List.drop_eq_nil_of_le (by have:=HL1.out; omega),List.drop_eq_nil_of_le (by have:=HL2.out; omega)],Box2.start _ _ _⟩
  case round =>
   obtain ⟨k,rfl,hk,hv,harg⟩:=hrel;have HV:=qz hv;have ca:=harg.one.cell 0;have cb:=harg.two.cell 0;clear hv;by_cases ht:0 < k
   ·
    obtain ⟨l,rfl⟩:∃ m,k = m + 1:=⟨k - 1,by omega⟩
    have HLT:Hid (nth xs l < nth ys l->V xs < V ys):=qz (drop_lt hd1 HV.out);have HGT:Hid (nth ys l < nth xs l->V ys < V xs):=qz (drop_lt hd2 HV.out.symm);have HEQ:Hid (¬ nth xs l < nth ys l->¬ nth ys l < nth xs l->V (xs.drop l) = V (ys.drop l)):=qz (fun h1 h2 => by have:=HV.out; rw [V_drop xs l,V_drop ys l]; omega);clear HV;go_wp2_with fail
    go_region_held3 (fun w' => w'.cell? ⟨w.heap.size,0,none⟩ = some (.slice A1 n1 c1)/\w'.cell? ⟨w.heap.size + 1,0,none⟩ = some (.slice A2 n2 c2)/\Below wr.heap.size wr w')
     (first | exact ⟨ca,cb,(Below.refl _ _).drew⟩ | assumption)
     (first
      | (go_at_call 71; with_reducible refine (digit_any A1 xs n1 c1 l _ HL1.out (rd_far hr1 harg.below (by assumption)) (by omega)).mono ?_; rintro e w' ⟨rfl,hb'⟩; have hS:=held_more hb' (by assumption))
      | (go_at_call 71; with_reducible refine (digit_any A2 ys n2 c2 l _ HL2.out (rd_far hr2 harg.below (by assumption)) (by omega)).mono ?_; rintro e w' ⟨rfl,hb'⟩; have hS:=held_more hb' (by assumption)))
    have hB:Below wr.heap.size wr w':=hS.2.2;have harg2:=harg.more hB;by_cases hlt:nth xs l < nth ys l
    ·
     have HC:Hid (cmpI (V xs) (V ys) = -1):=qz (cmpI_lt (HLT.out hlt));clear hS ca cb hcmp;go_wp2_with fail;go_ret;exact ⟨by rw [HC.out]; rfl,harg2.below⟩
    ·
     have ca2:=harg2.one.cell 0;have cb2:=harg2.two.cell 0;clear hS ca cb hcmp hB;have hwg:∃ wg,wg = w':=⟨_,rfl⟩
     obtain ⟨wg,hwg⟩:=hwg;rw [<- hwg] at ca2 cb2 harg2 ⊢;clear hwg;go_wp2_with fail
     go_region_held3 (fun w' => w'.cell? ⟨w.heap.size,0,none⟩ = some (.slice A1 n1 c1)/\w'.cell? ⟨w.heap.size + 1,0,none⟩ = some (.slice A2 n2 c2)/\Below wg.heap.size wg w')
      (first | exact ⟨ca2,cb2,(Below.refl _ _).drew⟩ | assumption)
      (first
       | (go_at_call 71; with_reducible refine (digit_any A1 xs n1 c1 l _ HL1.out (rd_far hr1 harg2.below (by assumption)) (by omega)).mono ?_; rintro e w' ⟨rfl,hb'⟩; have hS:=held_more hb' (by assumption))
       | (go_at_call 71; with_reducible refine (digit_any A2 ys n2 c2 l _ HL2.out (rd_far hr2 harg2.below (by assumption)) (by omega)).mono ?_; rintro e w' ⟨rfl,hb'⟩; have hS:=held_more hb' (by assumption)))
     have hB3:=hS.2.2;have harg3:=harg2.more hB3;by_cases hgt:nth ys l < nth xs l
     ·
      have HC:Hid (cmpI (V xs) (V ys) = 1):=qz (cmpI_gt (HGT.out hgt));clear hS ca2 cb2;go_wp2_with fail;go_ret;exact ⟨by rw [HC.out]; rfl,harg3.below⟩
     ·
      have HE:=qz (HEQ.out hlt hgt);clear hS ca2 cb2;go_wp2_with fail;go_roundw
      case rel => exact ⟨l,by go_num,by omega,HE.out,harg3⟩
      case measure => simp [intOf]
   ·
    obtain rfl:k = 0:=by omega
    have HC:Hid (cmpI (V xs) (V ys) = 0):=qz (cmpI_eq (by have:=HV.out; simpa using this));go_wp2_with fail;go_ret;exact ⟨by rw [HC.out]; rfl,harg.below⟩
theorem pow_big {a:Nat} (h:a < 340282366920938463463374607431768211456):a < 65536 ^ 100:=Nat.lt_of_lt_of_le h (by
 have:(65536:Nat) ^ 8<=65536 ^ 100:=Nat.pow_le_pow_right (by omega) (by omega)
 omega)
theorem pow_word {a:Nat} (h:a < 18446744073709551616):a < 65536 ^ 100:=pow_big (by omega)
theorem add_num {j k:Nat} (v1 v2:Value) (a b L1 L2:Nat) (w:World) (h1:Num w L1 v1 a) (h2:Num w L2 v2 b) (ha:a < 65536 ^ j) (hb:b < 65536 ^ k) (hj:j<=5000:=by omega) (hk:k<=5000:=by omega) :
  Calls Tryz.prog 52 #[v1,v2] w (RetNum w (a + b)):=by
 obtain ⟨A1,xs,n1,c1,rfl,hl1,_,hr1,hc1,e1,hn1⟩:=h1.form ha;obtain ⟨A2,ys,n2,c2,rfl,hl2,_,hr2,hc2,e2,hn2⟩:=h2.form hb;have:=add_any A1 A2 xs ys n1 c1 n2 c2 5000 w hl1.out hl2.out hr1 hr2 hc1.1 hc2.1 (by omega) (by omega) (by omega);rw [e1.out,e2.out] at this;exact this
theorem mul_num {j k:Nat} (v1 v2:Value) (a b L1 L2:Nat) (w:World) (h1:Num w L1 v1 a) (h2:Num w L2 v2 b) (ha:a < 65536 ^ j) (hb:b < 65536 ^ k) (hj:j<=5000:=by omega) (hk:k<=5000:=by omega) :
  Calls Tryz.prog 53 #[v1,v2] w (RetNum w (a * b)):=by
 obtain ⟨A1,xs,n1,c1,rfl,hl1,_,hr1,hc1,e1,hn1⟩:=h1.form ha;obtain ⟨A2,ys,n2,c2,rfl,hl2,_,hr2,hc2,e2,hn2⟩:=h2.form hb;have:=mul_any A1 A2 xs ys n1 c1 n2 c2 w hl1.out hl2.out hr1 hr2 hc1.1 hc2.1 (by omega) (by omega);rw [e1.out,e2.out] at this;exact this
theorem sub_num {j:Nat} (v1 v2:Value) (a b L1 L2:Nat) (w:World) (h1:Num w L1 v1 a) (h2:Num w L2 v2 b) (ha:a < 65536 ^ j) (hle:b<=a) (hj:j<=5000:=by omega) :
  Calls Tryz.prog 87 #[v1,v2] w (RetNum w (a - b)):=by
 obtain ⟨A1,xs,n1,c1,rfl,hl1,_,hr1,hc1,e1,hn1⟩:=h1.form ha;obtain ⟨A2,ys,n2,c2,rfl,hl2,_,hr2,hc2,e2,hn2⟩:=h2.form (k:=j) (Nat.lt_of_le_of_lt hle ha);have:=sub_any A1 A2 xs ys n1 c1 n2 c2 5000 w hl1.out hl2.out hr1 hr2 hc1.1 hc2.1 (by omega) (by omega) (by omega) (by rw [e1.out,e2.out]; exact hle);rw [e1.out,e2.out] at this;exact this
theorem cmp_num {j k:Nat} (v1 v2:Value) (a b L1 L2:Nat) (w:World) (h1:Num w L1 v1 a) (h2:Num w L2 v2 b) (ha:a < 65536 ^ j) (hb:b < 65536 ^ k) (hj:j<=5000:=by omega) (hk:k<=5000:=by omega) :
  Calls Tryz.prog 86 #[v1,v2] w fun e w' => e = .returned (.int .i64 (cmpI a b))/\Below w.heap.size w w':=by
 obtain ⟨A1,xs,n1,c1,rfl,hl1,_,hr1,hc1,e1,hn1⟩:=h1.form ha;obtain ⟨A2,ys,n2,c2,rfl,hl2,_,hr2,hc2,e2,hn2⟩:=h2.form hb;have:=cmp_loop A1 A2 xs ys n1 c1 n2 c2 5000 w hl1.out hl2.out hr1 hr2 hc1.1 hc2.1 (by omega) (by omega) (by omega);rw [e1.out,e2.out] at this;exact this
theorem op_of {ops:Array Oper} {i:Nat} {oi:Oper} (h:ops.toList[i]? = some oi):ops[i]? = some oi:=by rw [<- Array.getElem?_toList]; exact h
theorem take_skip {P:Program} {md:Region.Mode} {ops:Array Oper} {Q:Exit->Act->World->Prop} {S:World->Prop} {i:Nat} {oi:Oper} {fuel:Nat} {listed:Array Bool} {a:Act} {w:World} (hi:ops[i]? = some oi)
  (hs:Region.noSelect ops = true) (hf:Region.free md ops listed i = true) (hr:(Region.ready md ops listed).contains i = true)
  (hQ:∀ c a w,Q (.panic c) (a.put oi.dst undef) w->Q (.panic c) a w) (hw:Region.wanted oi (yielded ops a.tmps) = false) (hS:S w)
  (h:wpAnyH P md ops Q S fuel (listed.setIfInBounds i true) (a.put oi.dst undef) w):wpAnyH P md ops Q S (fuel + 1) listed a w :=
 wpAnyH_take hi hs hf hr hQ (Or.inr ⟨hw,rfl⟩) hS h
end
section
open Go.RowKit
set_option maxRecDepth 100000
theorem own12_keep2 {w w':World} {base:Nat} {e:TypeId} {s:Nat} {v:Value} {n:Nat} {xs:List Value} (h:w.ownsRow base e s v n xs) (hb:Below w.heap.size w w'):w'.ownsRow base e s v n xs:=by
 have hlt:=h.lt;obtain ⟨h1,h2⟩:=h;refine ⟨h1,?_⟩;rcases h2 with h2 | ⟨g,cap,cur,rfl,hg,hh,r⟩
 · exact .inl h2
 · exact .inr ⟨g,cap,cur,rfl,hg,by rw [hb.block g (hlt g rfl).2]; exact hh,r⟩
structure Tk14 where
 u:Bool
 c:Int
 a:Int
 k:Int
 t:Int
 o:Bool
structure Th14 where
 s:Int
 f:Int
 c:Int
 q:Int
 u:Int
structure Lk14 where
 u:Bool
 h:Int
instance:DecidableEq Tk14:=fun x y => decidable_of_iff (x.u = y.u/\x.c = y.c/\x.a = y.a/\x.k = y.k/\x.t = y.t/\x.o = y.o) (by cases x; cases y; simp)
instance:DecidableEq Th14:=fun x y => decidable_of_iff (x.s = y.s/\x.f = y.f/\x.c = y.c/\x.q = y.q/\x.u = y.u) (by cases x; cases y; simp)
instance:DecidableEq Lk14:=fun x y => decidable_of_iff (x.u = y.u/\x.h = y.h) (by cases x; cases y; simp)
instance:Inhabited Tk14:=⟨⟨false,0,0,0,0,false⟩⟩
instance:Inhabited Th14:=⟨⟨0,0,0,0,0⟩⟩
instance:Inhabited Lk14:=⟨⟨false,0⟩⟩
def clC (b:Bool):List Value:=[.bool b]
def clT (x:Tk14):List Value:=[.bool x.u,.int .i64 x.c,.int .i64 x.a,.int .i64 x.k,.int .i64 x.t,.bool x.o]
def clH (x:Th14):List Value:=[.int .i64 x.s,.int .i64 x.f,.int .i64 x.c,.int .i64 x.q,.int .i64 x.u]
def clL (x:Lk14):List Value:=[.bool x.u,.int .i64 x.h]
def clI (x:Int):List Value:=[.int .i64 x]
def usC (b:Bool):Bool:=b
def usT (x:Tk14):Bool:=x.u
def usH (x:Th14):Bool:=!decide (x.s = 0)
def usL (x:Lk14):Bool:=x.u
section
variable {α:Type}
def fl14 (cl:α->List Value) (xs:List α):List Value:=xs.flatMap cl
theorem fl14_append (cl:α->List Value) (xs ys:List α):fl14 cl (xs ++ ys) = fl14 cl xs ++ fl14 cl ys:=by simp [fl14]
theorem fl14_len {cl:α->List Value} {k:Nat} (hk:∀ x,(cl x).length = k) (xs:List α):(fl14 cl xs).length = xs.length * k:=by
 induction xs with
 | nil => simp [fl14]
 | cons x r ih =>
  have:fl14 cl (x :: r) = cl x ++ fl14 cl r:=by simp [fl14]
  rw [this,List.length_append,hk,ih,List.length_cons,Nat.succ_mul];omega
def Lq (cl:α->List Value) (w:World) (B:Nat) (A:Option Addr) (xs:List α):Prop:=Rv w B A (fl14 cl xs)
theorem Lq.step {cl:α->List Value} {w w':World} {A:Option Addr} {xs:List α} (h:Lq cl w w.heap.size A xs) (hb:Below w.heap.size w w'):Lq cl w' w'.heap.size A xs:=Rv.step h hb
theorem Lq.nil (cl:α->List Value) (w:World) (B:Nat) (A:Option Addr):Lq cl w B A []:=Rv.nil w B A
theorem Lq.of_own {cl:α->List Value} {k:Nat} {w:World} {base:Nat} {e:TypeId} {A:Option Addr} {c n:Nat} {xs:List α} (h0:0 < k) (h:w.ownsRow base e k (.slice A n c) n (fl14 cl xs)):Lq cl w w.heap.size A xs:=by
 intro hx;have hl:=h.1;have hpos:0 < (fl14 cl xs).length:=List.length_pos_iff.2 hx;rcases h.2 with ⟨_,h1⟩ | ⟨g,cap,cur,hv,_,hh,_⟩
 ·
  subst h1;rw [hl,Nat.zero_mul] at hpos;omega
 ·
  have hA:A = some ⟨g,0,none⟩:=by injection hv
  subst hA;refine ⟨g,0,rfl,(h.lt g rfl).2,fun i v hk => ?_⟩;have hc:=h.cells (g:=g) rfl i _ hk;rw [Go.WideShapes.add_plain] at hc;exact hc
end
section
variable {α:Type} [Inhabited α]
def gt14 (xs:List α) (j:Nat):α:=xs.getD j default
theorem gt14_in {xs:List α} {j:Nat} (h:j < xs.length):gt14 xs j = xs[j]:=by simp [gt14,List.getElem?_eq_getElem h]
theorem gt14_out {xs:List α} {j:Nat} (h:xs.length<=j):gt14 xs j = default:=by simp [gt14,List.getElem?_eq_none h]
theorem gt14_mem {xs:List α} {j:Nat} (h:j < xs.length):gt14 xs j∈xs:=by rw [gt14_in h]; exact List.getElem_mem h
def en14 (us:α->Bool) (xs:List α):Nat->Nat
 | 0 => 0
 | n + 1 => if us (gt14 xs n) = true then n + 1 else en14 us xs n
theorem en14_le (us:α->Bool) (xs:List α) (n:Nat):en14 us xs n<=n:=by
 induction n with
 | zero => exact Nat.le_refl _
 | succ n ih => rw [en14]; split <;> omega
theorem en14_yes {us:α->Bool} {xs:List α} {n:Nat} (h:us (gt14 xs n) = true):en14 us xs (n + 1) = n + 1:=by rw [en14,if_pos h]
theorem en14_no {us:α->Bool} {xs:List α} {n:Nat} (h:us (gt14 xs n) = false):en14 us xs (n + 1) = en14 us xs n:=by rw [en14,if_neg (by rw [h]; decide)]
theorem en14_full {us:α->Bool} {xs:List α} {n:Nat}:en14 us xs n = n↔n = 0\/us (gt14 xs (n - 1)) = true:=by
 cases n with
 | zero => simp [en14]
 | succ n =>
  rw [Nat.add_sub_cancel]
  cases h:us (gt14 xs n) with
  | true => rw [en14_yes h]; simp
  | false =>
   rw [en14_no h];have:=en14_le us xs n;constructor
   · intro e; omega
   · rintro (e | e) <;> cases e
def us14 (us:α->Bool) (xs:List α) (i:Int):Bool:=decide (0<=i) && us (gt14 xs i.toNat)
def at14 (us:α->Bool) (xs:List α) (i:Int):α:=if us14 us xs i = true then gt14 xs i.toNat else default
theorem fl14_get {cl:α->List Value} {k:Nat} (hk:∀ x,(cl x).length = k) {xs:List α} {j i:Nat} (hj:j < xs.length) (hi:i < k):(fl14 cl xs)[j * k + i]? = (cl (gt14 xs j))[i]?:=by
 induction xs generalizing j with
 | nil => simp at hj
 | cons x r ih =>
  have e:fl14 cl (x :: r) = cl x ++ fl14 cl r:=by simp [fl14]
  rw [e]
  cases j with
  | zero =>
   rw [Nat.zero_mul,Nat.zero_add,List.getElem?_append_left (by rw [hk]; exact hi)]
   rfl
  | succ j =>
   rw [List.getElem?_append_right (by rw [hk,Nat.succ_mul]; omega),hk,show (j + 1) * k + i - k = j * k + i by rw [Nat.succ_mul]; omega,ih (by simpa using hj)];rfl
theorem Lq.at_ {cl:α->List Value} {k:Nat} (hk:∀ x,(cl x).length = k) (h0:0 < k) {w:World} {B:Nat} {A:Option Addr} {xs:List α} {j:Nat} (h:Lq cl w B A xs) (hj:j < xs.length) :
  ∃ b o,A = some ⟨b,o,none⟩/\b < B/\∀ i v,(cl (gt14 xs j))[i]? = some v->w.cell? ⟨b,o + j * k + i,none⟩ = some v:=by
 obtain ⟨b,o,h1,h2,h3⟩:=h (by
  intro e;have:=fl14_len hk xs;rw [e,List.length_nil] at this;have:0 < xs.length * k:=Nat.mul_pos (by omega) h0
  omega)
 refine ⟨b,o,h1,h2,fun i v hv => ?_⟩
 have hi:i < k:=by
  have:=(List.getElem?_eq_some_iff.1 hv).1
  rwa [hk] at this
 rw [Nat.add_assoc];exact h3 _ v (by rw [fl14_get hk hj hi]; exact hv)
end
theorem own14_cap {w:World} {base:Nat} {e:TypeId} {k:Nat} {A:Option Addr} {c n:Nat} {vs:List Value} (h:w.ownsRow base e k (.slice A n c) n vs):n<=c:=by
 rcases h.2 with ⟨_,h0⟩ | ⟨g,cap,cur,hv,_,_,hnc,_⟩
 · omega
 ·
  injection hv with _ _ hc
  omega
section
variable {P:Program} (w:World)
theorem run_append_14 (base:Nat) (t ty e:TypeId) (z:Value) (k bt:Nat) (ht:P.underlying t = some (.slice e)) (hinfo:(P.info? e).map (fun i => (i.zero,i.size,i.bytes)) = some (some z,k,bt)) (hz1:z.cells.size = k) (hk0:0 < k) (hbt:bt<=1000)
  (v:Value) (n:Nat) (vs:List Value) (hown:w.ownsRow base e k v n vs) (B:Nat) (A:Option Addr) (ys:List Value) (m c:Nat) (hm:ys.length = m * k) (hr:Rv w B A ys) (h1:∀ u∈ys,u.oneCell' = true)
  (hb:n + m<=1000000) (hbase:base<=w.heap.size) :
  ∃ A' c' w',(Builtin.append_ #[t,t] ty #[v,.slice A m c]).run P w = .ok (.slice A' (n + m) c') w'/\w'.ownsRow base e k (.slice A' (n + m) c') (n + m) (vs ++ ys)/\w.grownBy w' v.ownBlock:=by
 suffices H:∃ v' w',(Builtin.append_ #[t,t] ty #[v,.slice A m c]).run P w = .ok v' w'/\w'.ownsRow base e k v' (n + m) (vs ++ ys)/\w.grownBy w' v.ownBlock by
  obtain ⟨v',w',h1,h2,h3⟩:=H;rcases h2.2 with ⟨rfl,h0⟩ | ⟨g,cap,cur,rfl,_⟩
  ·
   rw [h0] at h2 ⊢;exact ⟨none,0,w',h1,h2,h3⟩
  · exact ⟨_,cap,w',h1,h2,h3⟩
 obtain ⟨i,hi,hz,hsz,hby⟩:=info_parts hinfo
 cases A with
 | none =>
  obtain rfl:ys = []:=by
   rcases ys with _ | ⟨y,r⟩
   · rfl
   ·
    obtain ⟨_,_,h,_⟩:=hr (by simp);cases h
  obtain rfl:m = 0:=by
   rw [List.length_nil] at hm;rcases Nat.eq_zero_or_pos m with h | h
   · exact h
   ·
    have:=Nat.mul_pos h hk0;omega
  refine ⟨v,w,?_,by simpa using hown,World.grownBy.refl w _⟩;rcases hown.2 with ⟨rfl,rfl⟩ | ⟨g,cap,cur,rfl,_,_,hnc,_⟩
  · simp [Builtin.append_,run_underlying ht,sizeOf,typeInfo,hi,Builtin.lenOf,Builtin.firstCells]
  · simp [Builtin.append_,run_underlying ht,sizeOf,typeInfo,hi,Builtin.lenOf,Builtin.firstCells,hnc,storeCells]
 | some ad =>
  have hcells:∀ j u,ys[j]? = some u->w.cell? (ad.add j) = some u:=by
   intro j u hu;obtain ⟨b,o,h1,_,h2⟩:=hr.at_ hu;injection h1 with h1
   subst h1;rw [<- h2,Addr.add_lit]
  have hmul:(n + m) * bt<=1000000 * 1000:=Nat.mul_le_mul hb hbt;obtain ⟨v',w',hrun,h2,h3,_,_⟩:=run_append_own_at (P:=P) w base t ty e i z k bt ht hi hz hsz hby hz1 hk0 v n vs hown ad m c ys hm hcells h1 (by unfold maxLen; omega) (by omega) hbase;exact ⟨v',w',hrun,h2,h3⟩
theorem wpList_append_14 {ops:Array Oper} {rest:List Oper} {o:Oper} {a:Act} {Q:Exit->Act->World->Prop} (hgd:o.guard = none) (s x:Operand) (t:TypeId)
  (ho:o.op = .call { callee:=.builtin .append,args:=#[s,x],argTypes:=#[t,t] }) (v y r:Value) (w':World) (hs:a.eval s = v) (hx:a.eval x = y)
  (hrun:(Builtin.append_ #[t,t] o.type #[v,y]).run P w = .ok r w') (h:wpList P ops Q rest (a.put o.dst r) w') :
  wpList P ops Q (o :: rest) a w:=by
 refine wpList_plain hgd fun K hK => ?_
 unfold Oper.wp execOp;simp only [ho,resolve,invoke,builtin,Sem.run_bind,Sem.run_pure,Result.andThen_ok,List.map_toArray,List.map_cons,List.map_nil,hs,hx,hrun];exact hK _ _ h
end
theorem len14C (x:Bool):(clC x).length = 1:=rfl
theorem used14C (xu:Bool) (b:Bool) (hb:usC xu = b) (w:World) :
  Calls Tryz.prog 122 #[.bool xu] w fun e w' => e = .returned (.bool b)/\Below w.heap.size w w':=by
 subst hb;go_enter Tryz.func122,Tryz.ntmps122;go_wp2_with fail;go_ret;exact ⟨rfl,Below.refl _ _⟩
end
end Go.Proofs.YtkdmnlihpebbkaaGreat
