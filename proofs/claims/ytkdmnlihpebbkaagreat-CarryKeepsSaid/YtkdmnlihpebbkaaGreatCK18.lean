import Derived.Test.YtkdmnlihpebbkaaGreatCK17
set_option linter.all false
set_option maxHeartbeats 16000000
namespace Go.Proofs.YtkdmnlihpebbkaaGreat
section
open Go.RowKit
set_option maxRecDepth 100000
theorem lives17 (v:Value) (S:Sv14) (i:Int) (w:World) (h:St14 w v S) (hf:Fine14 S) :
  Calls Tryz.prog 146 #[v,.int .i64 i] w fun e w' => e = .returned (.bool (livb17 S i))/\Below w.heap.size w w':=by
 obtain ⟨l,hl⟩:=tl16_ex hf i;rw [<- lv17_of hf hl];exact lives16 v S i l w h hf hl
theorem awake17 (A1:Option Addr) (m c1 g2 n c2:Nat) (Am:Nat->Nat) (t:Int) (w:World) (hr:Ib13 w g2 n Am) (b:Bool) (hb:aw17 n Am t = b) :
  Calls Tryz.prog 147 #[.agg #[.slice A1 m c1,.slice (some ⟨g2,0,none⟩) n c2],.int .i64 t] w fun e w' => e = .returned (.bool b)/\Below w.heap.size w w':=by
 have hk:=Blk.new w 122 #[.slice A1 m c1,.slice (some ⟨g2,0,none⟩) n c2];have hb1:=b1' w (.cells #[.slice A1 m c1,.slice (some ⟨g2,0,none⟩) n c2] 122);have x1:=hk.cell 1;by_cases h0:0<=t
 ·
  by_cases h1:t < (n:Int)
  ·
   obtain ⟨k,rfl⟩:∃ k:Nat,t = (k:Int):=⟨t.toNat,by omega⟩
   rw [aw17_in (by omega)] at hb;have q0:=((hr.below hb1 hr.lt).cells (show k < n by omega)).1;obtain ⟨z,hz⟩:=exq (Am k);rw [hz] at q0 hb;obtain ⟨W1,hW1⟩:=exq (w.alloc (.cells #[.slice A1 m c1,.slice (some ⟨g2,0,none⟩) n c2] 122));rw [hW1] at hb1 x1 q0;have HB1:=qz hb1;clear hr hz hk hb1;by_cases hz0:0 < z
   ·
    obtain rfl:b = true:=by rw [<- hb]; simp [hz0]
    have z1:(0:Int) < (z:Int):=by omega
    have HZ:=qz hz0;clear hb;go_enter Tryz.func147,Tryz.ntmps147;go_wp2_with fail;go_ret;exact ⟨by simp [HZ.out],HB1.out⟩
   ·
    obtain rfl:b = false:=by rw [<- hb]; simp [hz0]
    obtain rfl:z = 0:=by omega
    clear hb hz0;go_enter Tryz.func147,Tryz.ntmps147;go_wp2_with fail;go_ret;exact ⟨rfl,HB1.out⟩
  ·
   obtain rfl:false = b:=by rw [<- hb,aw17_out (fun h => h1 h.2)]
   have HB1:=qz hb1;clear hr hb hk hb1;go_enter Tryz.func147,Tryz.ntmps147;go_wp2_with fail;go_ret;exact ⟨rfl,HB1.out⟩
 ·
  obtain rfl:false = b:=by rw [<- hb,aw17_out (fun h => h0 h.1)]
  have HB1:=qz hb1;clear hr hb hk hb1 x1;go_enter Tryz.func147,Tryz.ntmps147;go_wp2_with fail;go_ret;exact ⟨rfl,HB1.out⟩
theorem lets17 (S:Sv14) (A0 A1 A2 A3 A4:Option Addr) (n0 n1 n2 n3 n4 c0 c1 c2 c3 c4:Nat) (sq:Int) (B1:Option Addr) (m d1 g2 n d2:Nat) (Am:Nat->Nat) (xu:Bool) (xc xa xk xt:Int) (xo:Bool) (w:World) (hs:SA14 w S A0 A1 A2 A3 A4 n0 n1 n2 n3 n4 c0 c1 c2 c3 c4 sq) (hf:Fine14 S) (hr:Ib13 w g2 n Am) :
  Calls Tryz.prog 131 #[.agg #[.slice B1 m d1,.slice (some ⟨g2,0,none⟩) n d2],(.agg #[.slice A0 n0 c0,.slice A1 n1 c1,.slice A2 n2 c2,.slice A3 n3 c3,.slice A4 n4 c4,.int .i64 sq]),.agg #[.bool xu,.int .i64 xc,.int .i64 xa,.int .i64 xk,.int .i64 xt,.bool xo]] w fun e w' => e = .returned (.bool (lts17 S n Am xk xt))/\Below w.heap.size w w':=by
 have hb1:=b1' w (.cells #[.slice B1 m d1,.slice (some ⟨g2,0,none⟩) n d2] 122);have hk1:=Blk.new w 122 #[.slice B1 m d1,.slice (some ⟨g2,0,none⟩) n d2];have hz1:(w.alloc (.cells #[.slice B1 m d1,.slice (some ⟨g2,0,none⟩) n d2] 122)).heap.size = w.heap.size + 1:=by simp
 obtain ⟨wa,hwa⟩:=exq (w.alloc (.cells #[.slice B1 m d1,.slice (some ⟨g2,0,none⟩) n d2] 122));rw [hwa] at hb1 hk1 hz1;have hb2:=b1' wa (.cells #[.slice A0 n0 c0,.slice A1 n1 c1,.slice A2 n2 c2,.slice A3 n3 c3,.slice A4 n4 c4,.int .i64 sq] 28)
 have hk2:=Blk.new wa 28 #[.slice A0 n0 c0,.slice A1 n1 c1,.slice A2 n2 c2,.slice A3 n3 c3,.slice A4 n4 c4,.int .i64 sq];have hz2:(wa.alloc (.cells #[.slice A0 n0 c0,.slice A1 n1 c1,.slice A2 n2 c2,.slice A3 n3 c3,.slice A4 n4 c4,.int .i64 sq] 28)).heap.size = w.heap.size + 2:=by simp [hz1]
 rw [hz1] at hk2;obtain ⟨wb,hwb⟩:=exq (wa.alloc (.cells #[.slice A0 n0 c0,.slice A1 n1 c1,.slice A2 n2 c2,.slice A3 n3 c3,.slice A4 n4 c4,.int .i64 sq] 28));rw [hwb] at hb2 hk2 hz2;have hb3:=b1' wb (.cells #[.bool xu,.int .i64 xc,.int .i64 xa,.int .i64 xk,.int .i64 xt,.bool xo] 55)
 have hk3:=Blk.new wb 55 #[.bool xu,.int .i64 xc,.int .i64 xa,.int .i64 xk,.int .i64 xt,.bool xo];rw [hz2] at hk3;obtain ⟨wc,hwc⟩:=exq (wb.alloc (.cells #[.bool xu,.int .i64 xc,.int .i64 xa,.int .i64 xk,.int .i64 xt,.bool xo] 55));rw [hwc] at hb3 hk3;have hg2:=hb1.trans (hb2.mono hb1.size);have hg:=hg2.trans (hb3.mono hg2.size);have HB:=qz hg
 have HLV:=qz (lives17 (.agg #[.slice A0 n0 c0,.slice A1 n1 c1,.slice A2 n2 c2,.slice A3 n3 c3,.slice A4 n4 c4,.int .i64 sq]) S xt wc ⟨A0,A1,A2,A3,A4,n0,n1,n2,n3,n4,c0,c1,c2,c3,c4,sq,rfl,hs.step hg⟩ hf);have HAW:=qz (awake17 B1 m d1 g2 n d2 Am xt wc (hr.below hg hr.lt) _ rfl);have ha:=(hk1.below hb2 hk1.lt).below hb3 (by have:=hk1.lt; have:=hb2.size; omega)
 have hx:=hk2.below hb3 hk2.lt;have y0:=ha.cell 0;have y1:=ha.cell 1;obtain ⟨x0,x1,x2,x3,x4,x5⟩:=ce6 hx;have t3:=hk3.cell 3;have t4:=hk3.cell 4;clear hb1 hb2 hb3 hk1 hk2 hk3 hg2 hg ha hx hs hr hf;by_cases k1:xk = 1
 ·
  have HE:Hid (lts17 S n Am xk xt = livb17 S xt):=qz (by rw [lts17,if_pos k1]);rw [HE.out];subst k1;clear HAW y0 y1 HE;go_enter Tryz.func131,Tryz.ntmps131;go_wp2_with fail;refine HLV.out.mono ?_;rintro e w4 ⟨rfl,hb4⟩;have HB4:=qz (HB.out.trans (hb4.mono HB.out.size));clear HLV hb4;go_wp2_with fail;go_ret;exact ⟨rfl,HB4.out⟩
 ·
  have k1b:(xk == 1) = false:=by simp [k1]
  by_cases k2:xk = 2
  ·
   have HE:Hid (lts17 S n Am xk xt = aw17 n Am xt):=qz (by rw [lts17,if_neg k1,if_pos k2]);rw [HE.out];subst k2;clear HLV x0 x1 x2 x3 x4 x5 HE k1 k1b;go_enter Tryz.func131,Tryz.ntmps131;go_wp2_with fail;refine HAW.out.mono ?_;rintro e w4 ⟨rfl,hb4⟩;have HB4:=qz (HB.out.trans (hb4.mono HB.out.size));clear HAW hb4;go_wp2_with fail;go_ret;exact ⟨rfl,HB4.out⟩
  ·
   have k2b:(xk == 2) = false:=by simp [k2]
   have HE:Hid (lts17 S n Am xk xt = false):=qz (by rw [lts17,if_neg k1,if_neg k2]);rw [HE.out];clear HLV HAW x0 x1 x2 x3 x4 x5 y0 y1 HE k1 k2;go_enter Tryz.func131,Tryz.ntmps131;go_wp2_with fail;go_ret;exact ⟨rfl,HB.out⟩
structure Ad17 (w0 w:World) (S:Sv14) (A0 A1 A2 A3 A4:Option Addr) (n0 n1 n2 n3 n4 c0 c1 c2 c3 c4:Nat) (sq:Int) (g1 g2:Nat) (M:Nat->Bool) (Am:Nat->Nat) (A:Option Addr) (l:List Nat) (W:World):Prop where
 k:Bk13 w0.heap.size g1 (some g2) w W
 b:Below w0.heap.size w0 W
 x:Blk W (w.heap.size + 1) 28 #[.slice A0 n0 c0,.slice A1 n1 c1,.slice A2 n2 c2,.slice A3 n3 c3,.slice A4 n4 c4,.int .i64 sq]
 y:Blk W w.heap.size 122 #[.slice (some ⟨g1,0,none⟩) n1 n1,.slice (some ⟨g2,0,none⟩) n0 n0]
 r1:Bb13 W g1 n1 M
 r2:Ib13 W g2 n0 Am
 r:Rd W W.heap.size A l
 f:Fa17 w.heap.size A l
 s:SA14 w0 S A0 A1 A2 A3 A4 n0 n1 n2 n3 n4 c0 c1 c2 c3 c4 sq
 e1:g1 < w.heap.size
 e2:g2 < w.heap.size
 f1:w0.heap.size<=g1
 f2:w0.heap.size<=g2
 ne:g1≠g2
theorem Ad17.sa {w0 w:World} {S:Sv14} {A0 A1 A2 A3 A4:Option Addr} {n0 n1 n2 n3 n4 c0 c1 c2 c3 c4:Nat} {sq:Int} {g1 g2:Nat} {M:Nat->Bool} {Am:Nat->Nat} {A:Option Addr} {l:List Nat} {W:World} (h:Ad17 w0 w S A0 A1 A2 A3 A4 n0 n1 n2 n3 n4 c0 c1 c2 c3 c4 sq g1 g2 M Am A l W):SA14 W S A0 A1 A2 A3 A4 n0 n1 n2 n3 n4 c0 c1 c2 c3 c4 sq:=h.s.step h.b
theorem Ad17.step {w0 w:World} {S:Sv14} {A0 A1 A2 A3 A4:Option Addr} {n0 n1 n2 n3 n4 c0 c1 c2 c3 c4:Nat} {sq:Int} {g1 g2:Nat} {M:Nat->Bool} {Am:Nat->Nat} {A:Option Addr} {l:List Nat} {W W':World} (h:Ad17 w0 w S A0 A1 A2 A3 A4 n0 n1 n2 n3 n4 c0 c1 c2 c3 c4 sq g1 g2 M Am A l W) (hb:Below W.heap.size W W'):Ad17 w0 w S A0 A1 A2 A3 A4 n0 n1 n2 n3 n4 c0 c1 c2 c3 c4 sq g1 g2 M Am A l W' :=
 ⟨bk17_trans h.k (bk17_below h.b.size hb),h.b.trans (hb.mono h.b.size),h.x.below hb h.x.lt,h.y.below hb h.y.lt,h.r1.step hb,h.r2.below hb h.r2.lt,(h.r.below hb (Nat.le_refl _)).more hb.size,h.f,h.s,h.e1,h.e2,h.f1,h.f2,h.ne⟩
theorem Ad17.congr {w0 w:World} {S:Sv14} {A0 A1 A2 A3 A4:Option Addr} {n0 n1 n2 n3 n4 c0 c1 c2 c3 c4:Nat} {sq:Int} {g1 g2:Nat} {M M':Nat->Bool} {Am Am':Nat->Nat} {A:Option Addr} {l:List Nat} {W:World} (h:Ad17 w0 w S A0 A1 A2 A3 A4 n0 n1 n2 n3 n4 c0 c1 c2 c3 c4 sq g1 g2 M Am A l W) (e1:M = M') (e2:Am = Am'):Ad17 w0 w S A0 A1 A2 A3 A4 n0 n1 n2 n3 n4 c0 c1 c2 c3 c4 sq g1 g2 M' Am' A l W:=e1 ▸ e2 ▸ h
theorem rd17_far {L:Nat} {A:Option Addr} {l:List Nat} {W:World} (h:Rd W W.heap.size A l) (hf:Fa17 L A l) {p:Addr} (hp:p.block < L) (u:Value):Rd (W.setCell p u) (W.setCell p u).heap.size A l:=fun hx => by
 obtain ⟨b,o,h1,h2,h3⟩:=h hx;obtain ⟨b2,o2,h4,h5⟩:=hf hx;rw [h1] at h4;injection h4 with h4
 injection h4 with h4
 exact ⟨b,o,h1,by simpa [World.setCell] using h2,fun k hk => (World.cell?_of_block (Below.heap_setCell W p u b (by omega))).trans (h3 k hk)⟩
theorem Ad17.mark {w0 w:World} {S:Sv14} {A0 A1 A2 A3 A4:Option Addr} {n0 n1 n2 n3 n4 c0 c1 c2 c3 c4:Nat} {sq:Int} {g1 g2:Nat} {M:Nat->Bool} {Am:Nat->Nat} {A:Option Addr} {l:List Nat} {W:World} (h:Ad17 w0 w S A0 A1 A2 A3 A4 n0 n1 n2 n3 n4 c0 c1 c2 c3 c4 sq g1 g2 M Am A l W) {j:Nat} (hj:j < n1) (u:Bool):Ad17 w0 w S A0 A1 A2 A3 A4 n0 n1 n2 n3 n4 c0 c1 c2 c3 c4 sq g1 g2 (upd M j u) Am A l (W.setCell ⟨g1,j,none⟩ (.bool u)) :=
 ⟨bk17_trans h.k (bk17_set (p:=⟨g1,j,none⟩) h.f1 (.inl rfl) _),h.b.setCell h.f1 _,h.x.far (by have:=h.e1; simp; omega) _,h.y.far (by have:=h.e1; simp; omega) _,h.r1.put hj u,h.r2.far (fun e => h.ne e.symm) _,rd17_far h.r h.f h.e1 _,h.f,h.s,h.e1,h.e2,h.f1,h.f2,h.ne⟩
theorem Ad17.sum {w0 w:World} {S:Sv14} {A0 A1 A2 A3 A4:Option Addr} {n0 n1 n2 n3 n4 c0 c1 c2 c3 c4:Nat} {sq:Int} {g1 g2:Nat} {M:Nat->Bool} {Am:Nat->Nat} {A:Option Addr} {l:List Nat} {W:World} (h:Ad17 w0 w S A0 A1 A2 A3 A4 n0 n1 n2 n3 n4 c0 c1 c2 c3 c4 sq g1 g2 M Am A l W) {c:Nat} (hc:c < n0) (z:Nat):Ad17 w0 w S A0 A1 A2 A3 A4 n0 n1 n2 n3 n4 c0 c1 c2 c3 c4 sq g1 g2 M (upd Am c z) A l (W.setCell ⟨g2,c,none⟩ (.int .i64 (z:Int))) :=
 ⟨bk17_trans h.k (bk17_set (p:=⟨g2,c,none⟩) h.f2 (.inr rfl) _),h.b.setCell h.f2 _,h.x.far (by have:=h.e2; simp; omega) _,h.y.far (by have:=h.e2; simp; omega) _,h.r1.far17 h.ne _,h.r2.put hc z,rd17_far h.r h.f h.e2 _,h.f,h.s,h.e1,h.e2,h.f1,h.f2,h.ne⟩
theorem Ad17.row {w0 w:World} {S:Sv14} {A0 A1 A2 A3 A4:Option Addr} {n0 n1 n2 n3 n4 c0 c1 c2 c3 c4:Nat} {sq:Int} {g1 g2:Nat} {M:Nat->Bool} {Am:Nat->Nat} {A B2:Option Addr} {l l2:List Nat} {W:World} (h:Ad17 w0 w S A0 A1 A2 A3 A4 n0 n1 n2 n3 n4 c0 c1 c2 c3 c4 sq g1 g2 M Am A l W) (h1:Rd W W.heap.size B2 l2) (h2:Fa17 w.heap.size B2 l2):Ad17 w0 w S A0 A1 A2 A3 A4 n0 n1 n2 n3 n4 c0 c1 c2 c3 c4 sq g1 g2 M Am B2 l2 W :=
 ⟨h.k,h.b,h.x,h.y,h.r1,h.r2,h1,h2,h.s,h.e1,h.e2,h.f1,h.f2,h.ne⟩
theorem upd17_same {f:Nat->Nat} {c z:Nat} (h:f c = z):upd f c z = f:=funext (fun x => by
 by_cases hx:x = c
 · subst hx; rw [upd_at,h]
 · rw [upd_far _ _ hx])
theorem upd17_twice (f:Nat->Nat) (c y z:Nat):upd (upd f c y) c z = upd f c z:=funext (fun x => by
 by_cases hx:x = c
 · subst hx; rw [upd_at,upd_at]
 · rw [upd_far _ _ hx,upd_far _ _ hx,upd_far _ _ hx])
theorem add17 (w0:World) (S:Sv14) (A0 A1 A2 A3 A4:Option Addr) (n0 n1 n2 n3 n4 c0 c1 c2 c3 c4:Nat) (sq:Int) (g1 g2 c:Nat) (M:Nat->Bool) (Am:Nat->Nat) (w:World) (hs:SA14 w0 S A0 A1 A2 A3 A4 n0 n1 n2 n3 n4 c0 c1 c2 c3 c4 sq) (hf:Fine14 S) (hb:Below w0.heap.size w0 w) (hr1:Bb13 w g1 n1 M) (hr2:Ib13 w g2 n0 Am) (hf1:w0.heap.size<=g1) (hf2:w0.heap.size<=g2) (hne:g1≠g2)
  (hu:us14 usC S.C (c:Int) = true) (hz:Am c = 0) (hpre:∀ j,j∈isd15 S (c:Int)->∀ z,cntb17 S j = ((gt14 S.T j).o && lts17 S S.C.length (upd Am c z) (gt14 S.T j).k (gt14 S.T j).t)) :
  Calls Tryz.prog 117 #[.agg #[.slice (some ⟨g1,0,none⟩) n1 n1,.slice (some ⟨g2,0,none⟩) n0 n0],(.agg #[.slice A0 n0 c0,.slice A1 n1 c1,.slice A2 n2 c2,.slice A3 n3 c3,.slice A4 n4 c4,.int .i64 sq]),.int .i64 (c:Int)] w fun e w' => e = .returned (.tuple #[])/\Bk13 w0.heap.size g1 (some g2) w w'/\Bb13 w' g1 n1 (adt17 S (isd15 S (c:Int)) M (isd15 S (c:Int)).length)/\Ib13 w' g2 n0 (upd Am c (ada17 S (isd15 S (c:Int)) (isd15 S (c:Int)).length)):=by
 have hb1:=b1' w (.cells #[.slice (some ⟨g1,0,none⟩) n1 n1,.slice (some ⟨g2,0,none⟩) n0 n0] 122);have hk1:=Blk.new w 122 #[.slice (some ⟨g1,0,none⟩) n1 n1,.slice (some ⟨g2,0,none⟩) n0 n0];have hz1:(w.alloc (.cells #[.slice (some ⟨g1,0,none⟩) n1 n1,.slice (some ⟨g2,0,none⟩) n0 n0] 122)).heap.size = w.heap.size + 1:=by simp
 obtain ⟨wa,hwa⟩:=exq (w.alloc (.cells #[.slice (some ⟨g1,0,none⟩) n1 n1,.slice (some ⟨g2,0,none⟩) n0 n0] 122));rw [hwa] at hb1 hk1 hz1;have hb2:=b1' wa (.cells #[.slice A0 n0 c0,.slice A1 n1 c1,.slice A2 n2 c2,.slice A3 n3 c3,.slice A4 n4 c4,.int .i64 sq] 28)
 have hk2:=Blk.new wa 28 #[.slice A0 n0 c0,.slice A1 n1 c1,.slice A2 n2 c2,.slice A3 n3 c3,.slice A4 n4 c4,.int .i64 sq];rw [hz1] at hk2;obtain ⟨wb,hwb⟩:=exq (wa.alloc (.cells #[.slice A0 n0 c0,.slice A1 n1 c1,.slice A2 n2 c2,.slice A3 n3 c3,.slice A4 n4 c4,.int .i64 sq] 28));rw [hwb] at hb2 hk2;have hg:=hb1.trans (hb2.mono hb1.size)
 have hk1b:=hk1.below hb2 hk1.lt;obtain ⟨l,hl⟩:=exq (isd15 S (c:Int));have hll:=isd17_len S (c:Int);have HIS:=qz (issued17 (.agg #[.slice A0 n0 c0,.slice A1 n1 c1,.slice A2 n2 c2,.slice A3 n3 c3,.slice A4 n4 c4,.int .i64 sq]) S (c:Int) wb ⟨A0,A1,A2,A3,A4,n0,n1,n2,n3,n4,c0,c1,c2,c3,c4,sq,rfl,hs.step (hb.trans (hg.mono hb.size))⟩);rw [hl] at hpre HIS hll ⊢
 have HPR:=qz hpre;have HMB:=qz (fun j => (isd17_mem hu (j:=j)).1);rw [hl] at HMB;have HF:=qz hf;have HL0:=qz hs.l0;have HL1:=qz hs.l1;have hm1:=hs.m1;have hc0:c < n0:=by have:=us15_lt hu; have:=hs.l0; omega
 obtain ⟨m,hm⟩:=exq l.length;have HM:=qz hm;have hmn:m<=1000:=by have:=hs.l1; omega
 have HADB:=qz (ada17_bound hf.2.2.2.2.1 l)
 have HA0:Hid (Ad17 w0 w S A0 A1 A2 A3 A4 n0 n1 n2 n3 n4 c0 c1 c2 c3 c4 sq g1 g2 (adt17 S l M 0) (upd Am c (ada17 S l 0)) none [] wb):=qz
  ⟨bk17_below hb.size hg,hb.trans (hg.mono hb.size),hk2,hk1b,hr1.step hg,by rw [show upd Am c (ada17 S l 0) = Am from upd17_same hz]; exact hr2.below hg hr2.lt,fun h => absurd rfl h,fun h => absurd rfl h,hs,hr1.lt17,hr2.lt,hf1,hf2,hne⟩
 obtain ⟨x0,x1,x2,x3,x4,x5⟩:=ce6 hk2;clear hb1 hb2 hk1 hg hk1b hpre hf hs hb hr1 hr2 hf1 hf2 hz hl hm hu hll hne hk2;go_enter Tryz.func117,Tryz.ntmps117;go_wp2_with fail;refine HIS.out.mono ?_;rintro e w3 ⟨A,ca,rfl,hr3,hfa3,hb3⟩;rw [HM.out];have HW3:=qz ((HA0.out.step hb3).row hr3 (hfa3.more HA0.out.k.size));clear HIS hr3 hfa3 hb3 HA0 x0 x1 x2 x3 x4 x5
 go_wp2_with fail;go_loopw [13] (fun i wr => ∃ k:Nat,i = .int .i64 (k:Int)/\k<=m/\Hid (Ad17 w0 w S A0 A1 A2 A3 A4 n0 n1 n2 n3 n4 c0 c1 c2 c3 c4 sq g1 g2 (adt17 S l M k) (upd Am c (ada17 S l k)) A l wr)) (fun i _ => m - (intOf i).toNat)
 case atStart => exact ⟨0,rfl,by omega,HW3⟩
 case round =>
  clear HW3;obtain ⟨k,rfl,hk,HW⟩:=hrel;by_cases hkm:k < m
  ·
   obtain ⟨ga,oa,hA,hab,q0⟩:=HW.out.r.at_ (show k < l.length by rw [HM.out]; exact hkm);obtain ⟨j,hj⟩:=exq (nth l k);rw [hj] at q0;have hjl:j∈l:=by rw [<- hj,nth_in (by rw [HM.out]; exact hkm)]; exact List.getElem_mem _
   have hjn:=(HMB.out j hjl).1;obtain ⟨gt,ot,hAt,hbt,hq⟩:=Lq.at_ len14T (by omega) HW.out.sa.r1 hjn;have t1:wr.cell? ⟨w.heap.size + 1,1,none⟩ = some (.slice (some ⟨gt,ot,none⟩) n1 c1):=by rw [<- hAt]; exact HW.out.x.cell 1
   obtain ⟨x,hx⟩:=exq (gt14 S.T j);have hpr:=HPR.out j hjl (ada17 S l k);rw [hx] at hq hpr;obtain ⟨xu,xc,xa,xk,xt,xo⟩:=x;have e0:wr.cell? ⟨gt,ot + j * 6,none⟩ = some (.bool xu):=hq 0 _ rfl;have e1:wr.cell? ⟨gt,ot + j * 6 + 1,none⟩ = some (.int .i64 xc):=hq 1 _ rfl;have e2:wr.cell? ⟨gt,ot + j * 6 + 2,none⟩ = some (.int .i64 xa):=hq 2 _ rfl
   have e3:wr.cell? ⟨gt,ot + j * 6 + 3,none⟩ = some (.int .i64 xk):=hq 3 _ rfl;have e4:wr.cell? ⟨gt,ot + j * 6 + 4,none⟩ = some (.int .i64 xt):=hq 4 _ rfl;have e5:wr.cell? ⟨gt,ot + j * 6 + 5,none⟩ = some (.bool xo):=hq 5 _ rfl;have i0:(0:Int)<=(k:Int):=by omega
   have i1:(k:Int) < (m:Int):=by omega
   have j0:(0:Int)<=(j:Int):=by omega
   have hj1:j < n1:=by have:=HL1.out; omega
   have j1:(j:Int) < (n1:Int):=by omega
   have s0:(0:Int)<=(c:Int):=by omega
   have s1:(c:Int) < (n0:Int):=by omega
   have HNT:Hid (adt17 S l M (k + 1) = if cntb17 S j = true then upd (adt17 S l M k) j true else adt17 S l M k):=qz (by rw [adt17,hj]);have HNA:Hid (ada17 S l (k + 1) = ada17 S l k + if cntb17 S j = true then xa.toNat else 0):=qz (by rw [ada17,hj,hx])
   have HV:=qz (HW.out.step (b1' wr (.cells #[.bool xu,.int .i64 xc,.int .i64 xa,.int .i64 xk,.int .i64 xt,.bool xo] 55)));have hv:=Blk.new wr 55 #[.bool xu,.int .i64 xc,.int .i64 xa,.int .i64 xk,.int .i64 xt,.bool xo];have hvl:w.heap.size + 1 < wr.heap.size:=HW.out.x.lt;obtain ⟨gv,hgv⟩:=exq wr.heap.size
   obtain ⟨X,hX⟩:=exq (wr.alloc (.cells #[.bool xu,.int .i64 xc,.int .i64 xa,.int .i64 xk,.int .i64 xt,.bool xo] 55));rw [hgv] at hv hvl;rw [hX] at HV hv;obtain ⟨v0,v1,v2,v3,v4,v5⟩:=ce6 hv;have HVB:=qz hv;have HXJ:=qz hx
   have HXA:Hid (cntb17 S j = true->1<=xa/\xa<=1048576):=qz (fun h => by
    have h1:=(cntb17_yes.1 h).lt;have h2:=HF.out.2.2.2.2.1 j h1.1 h1.2;rw [hx] at h2
    exact ⟨h2.2.1,h2.2.2.1⟩)
   clear hv hq hx hab hbt hjl hj hAt;subst hA;go_upto_region 5 with (fail)
   clear t1 e0 e1 e2 e3 e4 e5 q0 hX
   cases xo with
   | false =>
    have hcf:cntb17 S j = false:=by rw [hpr]; rfl
    have HN:Hid (Ad17 w0 w S A0 A1 A2 A3 A4 n0 n1 n2 n3 n4 c0 c1 c2 c3 c4 sq g1 g2 (adt17 S l M (k + 1)) (upd Am c (ada17 S l (k + 1))) (some ⟨ga,oa,none⟩) l X):=qz (HV.out.congr (by rw [HNT.out,hcf]; rfl) (by rw [HNA.out,hcf]; rfl));clear hpr hcf HV HNT HNA HXA;go_wp2_with fail;go_roundw
    case rel => exact ⟨k + 1,by go_num,by omega,HN⟩
    case measure => simp [intOf]; omega
   | true =>
    rw [Bool.true_and,show S.C.length = n0 from HL0.out] at hpr;have HLT:=qz (lets17 S A0 A1 A2 A3 A4 n0 n1 n2 n3 n4 c0 c1 c2 c3 c4 sq (some ⟨g1,0,none⟩) n1 n1 g2 n0 n0 (upd Am c (ada17 S l k)) xu xc xa xk xt true X HV.out.sa HF.out HV.out.r2);have y0:=HV.out.y.cell 0;have y1:=HV.out.y.cell 1;obtain ⟨x0,x1,x2,x3,x4,x5⟩:=ce6 HV.out.x
    rw [<- show cntb17 S j = lts17 S n0 (upd Am c (ada17 S l k)) xk xt from hpr] at HLT;obtain ⟨b,hb⟩:=exq (cntb17 S j);rw [hb] at HLT HNT HNA HXA;clear hpr hb
    cases b with
    | false =>
     go_wp2_with fail;refine HLT.out.mono ?_;rintro e w4 ⟨rfl,hb4⟩;have HN:Hid (Ad17 w0 w S A0 A1 A2 A3 A4 n0 n1 n2 n3 n4 c0 c1 c2 c3 c4 sq g1 g2 (adt17 S l M (k + 1)) (upd Am c (ada17 S l (k + 1))) (some ⟨ga,oa,none⟩) l w4):=qz ((HV.out.step hb4).congr (by rw [HNT.out]; rfl) (by rw [HNA.out]; rfl));clear HLT hb4 HV HNT HNA HXA;go_wp2_with fail
     go_roundw
     case rel => exact ⟨k + 1,by go_num,by omega,HN⟩
     case measure => simp [intOf]; omega
    | true =>
     go_wp2_with fail;refine HLT.out.mono ?_;rintro e w4 ⟨rfl,hb4⟩;have hx1:=HXA.out (by first | rfl | trivial);have hsb:=HADB.out k;obtain ⟨z,hz⟩:=exq (ada17 S l k);have h4:=HV.out.step hb4;have f1:=(h4.r1.cells hj1).2;have p1:=(h4.r1.cells hj1).1;have h5:=h4.mark hj1 true
     have hv5:=(HVB.out.below hb4 HVB.out.lt).far (p:=⟨g1,j,none⟩) (by have:=h4.e1; simp; omega) (.bool true);have y05:=h4.y.cell 0;obtain ⟨w5,hw5⟩:=exq (w4.setCell ⟨g1,j,none⟩ (.bool true));rw [hw5] at h5 hv5;rw [hz] at h5 hsb;have y15:=h5.y.cell 1;have p2:=(h5.r2.cells hc0).1;have f2:=(h5.r2.cells hc0).2;rw [upd_at] at p2;have v52:=hv5.cell 2
     obtain ⟨z2,hz2⟩:∃ z2:Nat,(z:Int) + xa = (z2:Int):=⟨((z:Int) + xa).toNat,by omega⟩
     have HZ2:Hid (ada17 S l (k + 1) = z2):=qz (by rw [HNA.out,hz,if_pos (by first | rfl | trivial)]; omega);have hwr:IntKind.i64.wrap ((z2:Nat):Int) = (z2:Int):=by rw [IntKind.wrap_i64]; omega
     have h6:=h5.sum hc0 z2;rw [upd17_twice] at h6;have HN:Hid (Ad17 w0 w S A0 A1 A2 A3 A4 n0 n1 n2 n3 n4 c0 c1 c2 c3 c4 sq g1 g2 (adt17 S l M (k + 1)) (upd Am c (ada17 S l (k + 1))) (some ⟨ga,oa,none⟩) l (w5.setCell ⟨g2,c,none⟩ (.int .i64 (z2:Int)))):=qz (h6.congr (by rw [HNT.out]; rfl) (by rw [HZ2.out]))
     clear HLT hb4 HV HNT HNA HXA h4 h5 h6 hv5 hz HZ2 hx1 hsb HVB;go_wp2_with fail
     go_region
     go_wp2_with fail;go_roundw
     case rel => exact ⟨k + 1,by go_num,by omega,qz (HN.out.step (Below.refl _ _).drew)⟩
     case measure => simp [intOf]; omega
  ·
   obtain rfl:k = m:=by omega
   have i1:¬ (k:Int) < (k:Int):=by omega
   go_wp2_with fail
   go_end0
   rw [HM.out];exact ⟨rfl,HW.out.k,HW.out.r1,HW.out.r2⟩
end
section
open Go.RowKit Go.Shelf
attribute [local go_sem] Oper.semAt_some
set_option maxRecDepth 100000
theorem By16.kept17 {w:World} {S:Sv14} {A0 A1 A2 A3 A4:Option Addr} {n0 n1 n2 n3 n4 c0 c1 c2 c3 c4:Nat} {sq:Int} {X Y:World} {row:Option Nat} (h:By16 w S A0 A1 A2 A3 A4 n0 n1 n2 n3 n4 c0 c1 c2 c3 c4 sq X) (hg:X.grownBy Y row) {C:Nat} (hC:w.heap.size<=C)
  (hr:∀ r,row = some r->C<=r/\∃ o:Obj,X.heap[r]? = some o/\o.isCells = false):By16 w S A0 A1 A2 A3 A4 n0 n1 n2 n3 n4 c0 c1 c2 c3 c4 sq Y:=by
 have hB:Below w.heap.size w Y:=h.b.b.grown hg h.b.b.size (fun r e => by have:=(hr r e).1; omega);exact ⟨⟨hB,blk11_kept h.b.x hg (fun r e => (hr r e).2),h.s.step hB⟩,h.s⟩
theorem bb17_kept {w w':World} {g n:Nat} {M:Nat->Bool} {row:Option Nat} (h:Bb13 w g n M) (hg:w.grownBy w' row) (hr:∀ r,row = some r->∃ o:Obj,w.heap[r]? = some o/\o.isCells = false):Bb13 w' g n M:=by
 obtain ⟨cs,h1,h2⟩:=h;exact ⟨cs,blk11_kept h1 hg hr,h2⟩
theorem ib17_kept {w w':World} {g n:Nat} {M:Nat->Nat} {row:Option Nat} (h:Ib13 w g n M) (hg:w.grownBy w' row) (hr:∀ r,row = some r->∃ o:Obj,w.heap[r]? = some o/\o.isCells = false):Ib13 w' g n M:=by
 obtain ⟨cs,h1,h2⟩:=h;exact ⟨cs,blk11_kept h1 hg hr,h2⟩
theorem ib17_blk {w:World} {g n h:Nat} {t:TypeId} {M:Nat->Nat} {cs:Array Value} (q:Ib13 w g n M) (hb:Blk w h t cs) (ht:3≠t):g≠h:=by
 obtain ⟨es,h1,_⟩:=q;exact blk_ne12 h1 hb ht
theorem bb17_blk {w:World} {g n h:Nat} {t:TypeId} {M:Nat->Bool} {cs:Array Value} (q:Bb13 w g n M) (hb:Blk w h t cs) (ht:4≠t):g≠h:=by
 obtain ⟨es,h1,_⟩:=q;exact blk_ne12 h1 hb ht
theorem bb17_ib {w:World} {g h n m:Nat} {M:Nat->Bool} {N:Nat->Nat} (q:Bb13 w g n M) (r:Ib13 w h m N):g≠h:=by
 obtain ⟨es,h1,_⟩:=r;exact bb17_blk q h1 (by decide)
theorem made_i17 (W:World) (n:Nat):Ib13 (W.alloc (.cells (madeCells #[.int .i64 0] n) 3)) W.heap.size n (fun _ => 0):=by
 obtain ⟨cs,h1,h2,h3⟩:=made13 W 3 n (.int .i64 0);exact ⟨cs,h1,by omega,h3⟩
theorem made_b17 (W:World) (n:Nat):Bb13 (W.alloc (.cells (madeCells #[.bool false] n) 4)) W.heap.size n (fun _ => false):=made13 W 4 n (.bool false)
structure Su17 (w:World) (S:Sv14) (A0 A1 A2 A3 A4:Option Addr) (n0 n1 n2 n3 n4 c0 c1 c2 c3 c4:Nat) (sq:Int) (gb g1 g2:Nat) (M:Nat->Bool) (Am:Nat->Nat) (W:World):Prop where
 b:By16 w S A0 A1 A2 A3 A4 n0 n1 n2 n3 n4 c0 c1 c2 c3 c4 sq W
 o:Blk W (w.heap.size + 1) 122 #[.slice none 0 0,.slice none 0 0]
 v:Blk W gb 122 #[.slice (some ⟨g1,0,none⟩) n1 n1,.slice (some ⟨g2,0,none⟩) n0 n0]
 r1:Bb13 W g1 n1 M
 r2:Ib13 W g2 n0 Am
 fb:w.heap.size + 2<=gb
 f1:w.heap.size + 2<=g1
 f2:w.heap.size + 2<=g2
theorem Su17.step {w:World} {S:Sv14} {A0 A1 A2 A3 A4:Option Addr} {n0 n1 n2 n3 n4 c0 c1 c2 c3 c4:Nat} {sq:Int} {gb g1 g2:Nat} {M:Nat->Bool} {Am:Nat->Nat} {W W':World} (h:Su17 w S A0 A1 A2 A3 A4 n0 n1 n2 n3 n4 c0 c1 c2 c3 c4 sq gb g1 g2 M Am W) (hb:Below W.heap.size W W'):Su17 w S A0 A1 A2 A3 A4 n0 n1 n2 n3 n4 c0 c1 c2 c3 c4 sq gb g1 g2 M Am W' :=
 ⟨h.b.step hb,h.o.below hb h.o.lt,h.v.below hb h.v.lt,h.r1.step hb,h.r2.below hb h.r2.lt,h.fb,h.f1,h.f2⟩
theorem Su17.ne {w:World} {S:Sv14} {A0 A1 A2 A3 A4:Option Addr} {n0 n1 n2 n3 n4 c0 c1 c2 c3 c4:Nat} {sq:Int} {gb g1 g2:Nat} {M:Nat->Bool} {Am:Nat->Nat} {W:World} (h:Su17 w S A0 A1 A2 A3 A4 n0 n1 n2 n3 n4 c0 c1 c2 c3 c4 sq gb g1 g2 M Am W):g1≠g2/\g1≠gb/\g2≠gb:=⟨bb17_ib h.r1 h.r2,bb17_blk h.r1 h.v (by decide),ib17_blk h.r2 h.v (by decide)⟩
theorem Su17.kept {w:World} {S:Sv14} {A0 A1 A2 A3 A4:Option Addr} {n0 n1 n2 n3 n4 c0 c1 c2 c3 c4:Nat} {sq:Int} {gb g1 g2:Nat} {M:Nat->Bool} {Am:Nat->Nat} {X Y:World} {row:Option Nat} (h:Su17 w S A0 A1 A2 A3 A4 n0 n1 n2 n3 n4 c0 c1 c2 c3 c4 sq gb g1 g2 M Am X) (hg:X.grownBy Y row) {C:Nat} (hC:w.heap.size<=C)
  (hr:∀ r,row = some r->C<=r/\∃ o:Obj,X.heap[r]? = some o/\o.isCells = false):Su17 w S A0 A1 A2 A3 A4 n0 n1 n2 n3 n4 c0 c1 c2 c3 c4 sq gb g1 g2 M Am Y:=by
 have hr2:∀ r,row = some r->∃ o:Obj,X.heap[r]? = some o/\o.isCells = false:=fun r e => (hr r e).2
 exact ⟨h.b.kept17 hg hC hr,blk11_kept h.o hg hr2,blk11_kept h.v hg hr2,bb17_kept h.r1 hg hr2,ib17_kept h.r2 hg hr2,h.fb,h.f1,h.f2⟩
theorem Su17.turn {w:World} {S:Sv14} {A0 A1 A2 A3 A4:Option Addr} {n0 n1 n2 n3 n4 c0 c1 c2 c3 c4:Nat} {sq:Int} {gb g1 g2:Nat} {M M':Nat->Bool} {Am Am':Nat->Nat} {W W':World} (h:Su17 w S A0 A1 A2 A3 A4 n0 n1 n2 n3 n4 c0 c1 c2 c3 c4 sq gb g1 g2 M Am W) (hk:Bk13 w.heap.size g1 (some g2) W W') (h1:Bb13 W' g1 n1 M') (h2:Ib13 W' g2 n0 Am'):Su17 w S A0 A1 A2 A3 A4 n0 n1 n2 n3 n4 c0 c1 c2 c3 c4 sq gb g1 g2 M' Am' W':=by
 have hne:=h.ne;have hf1:=h.f1;have hf2:=h.f2;have hB:Below w.heap.size w W':=h.b.b.b.trans hk.below;exact ⟨⟨⟨hB,hk.blk h.b.b.x (by omega) (by simp; omega),h.b.s.step hB⟩,h.b.s⟩,hk.blk h.o (by omega) (by simp; omega),hk.blk h.v (fun e => hne.2.1 e.symm) (by simp; exact fun e => hne.2.2 e.symm),h1,h2,h.fb,h.f1,h.f2⟩
def RetSu17 (w:World) (S:Sv14) (e:Ending) (w':World):Prop:=∃ g1 g2,e = .returned (.agg #[.slice (some ⟨g1,0,none⟩) S.T.length S.T.length,.slice (some ⟨g2,0,none⟩) S.C.length S.C.length])/\w.heap.size<=g1/\w.heap.size<=g2/\Bb13 w' g1 S.T.length (cntb17 S)/\Ib13 w' g2 S.C.length (fun x => amn17 S ((x:Nat):Int))/\Below w.heap.size w w'
def regionOf17:Code->Nat->Option (Array Oper)
 | .region id ops _,n => if id = n then some ops else none
 | .seq x y,n => (regionOf17 x n).orElse fun _ => regionOf17 y n
 | .cond _ x y,n => (regionOf17 x n).orElse fun _ => regionOf17 y n
 | .block _ x,n => regionOf17 x n
 | .loop x,n => regionOf17 x n
 | _,_ => none
def ops17bs:{ o:Array Oper // (match Go.Func.body Tryz.f99 with | some c => regionOf17 c 1 | none => none) = some o }:=⟨_,rfl⟩
def ops17b:Array Oper:=ops17bs.1
section
variable {t0 t1 t2 t3 t4 t5 t6 t7 t8 t9 t10 t11 t12 t13 t14 t15 t16 t17 t18 t19 t20 t21 t22 t23 t24:Value}
variable {Q:Exit->Act->World->Prop}
theorem made17 {w wc:World} {S:Sv14} {A0 A1 A2 A3 A4:Option Addr} {n0 n1 n2 n3 n4 c0 c1 c2 c3 c4:Nat} {sq:Int} (hm0:n0<=1000) (hm1:n1<=1000) (hb:By16 w S A0 A1 A2 A3 A4 n0 n1 n2 n3 n4 c0 c1 c2 c3 c4 sq wc) (ho:Blk wc (w.heap.size + 1) 122 #[.slice none 0 0,.slice none 0 0])
  (hP:∀ c a d v w,Q (.panic c) (Act.put a (some d) v) w->Q (.panic c) a w)
  (hQ:∀ (x6 x7 x8 x9 x10 x11 x12 x13 x14:Value) (wn:World) (gb g1 g2:Nat),Su17 w S A0 A1 A2 A3 A4 n0 n1 n2 n3 n4 c0 c1 c2 c3 c4 sq gb g1 g2 (fun _ => false) (fun _ => 0) wn->Q .normal { tmps:=#[(.agg #[.slice A0 n0 c0,.slice A1 n1 c1,.slice A2 n2 c2,.slice A3 n3 c3,.slice A4 n4 c4,.int .i64 sq]),.pointer (some ⟨w.heap.size,0,none⟩),.pointer (some ⟨w.heap.size + 1,0,none⟩),.pointer (some ⟨gb,0,none⟩),t4,t5,x6,x7,x8,x9,x10,x11,x12,x13,x14,t15,t16,t17,t18,t19,t20,t21,t22,t23,t24],defers:=[] } wn) :
  (Code.region 1 ops17b true).wp Tryz.prog Q { tmps:=#[(.agg #[.slice A0 n0 c0,.slice A1 n1 c1,.slice A2 n2 c2,.slice A3 n3 c3,.slice A4 n4 c4,.int .i64 sq]),.pointer (some ⟨w.heap.size,0,none⟩),.pointer (some ⟨w.heap.size + 1,0,none⟩),t3,t4,t5,t6,t7,t8,t9,t10,t11,t12,t13,t14,t15,t16,t17,t18,t19,t20,t21,t22,t23,t24],defers:=[] } wc:=by
 have hmk1:=make_bools13 n1 (by omega);have hmk2:=make_ints13 n0 (by omega);have HXN:=qz (hb.step (Below.refl _ _).drew);have HR:=qz (ho.below (Below.refl wc.heap.size wc).drew ho.lt);clear hb ho hm0 hm1;refine wp_region_held_drew (S:=By16 w S A0 A1 A2 A3 A4 n0 n1 n2 n3 n4 c0 c1 c2 c3 c4 sq) (by kernel_rfl) HXN.out (fun hHeld => ?_)
 change wpAnyH _ _ ops17b _ _ 11 #[false,false,false,false,false,false,false,false,false,false,false] _ _
 obtain ⟨wn,hwn⟩:=exq wc.drew;rw [hwn] at HXN HR hHeld;rw [hwn];clear hwn;have HBS:=HXN;refine tkpq hP 0 ?_;refine tkp hP 1 (v:=?_) (fun W hS => ?_) ?_;rotate_left
 ·
  try dsimp only at hS
  have z0:=hS.b.x.cell 1;go_simp
  try with_reducible rfl
 try simp only [Act.put,pt1,pt2,pt3]
 refine tkpq hP 2 ?_;refine tkpq hP 4 ?_;refine tkp hP 5 (v:=?_) (fun W hS => ?_) ?_;rotate_left
 ·
  try dsimp only at hS
  have z0:=hS.b.x.cell 0;go_simp
  try with_reducible rfl
 try simp only [Act.put,pt1,pt2,pt3]
 refine tkpq hP 6 ?_
 refine memo (fun a G => ∀ (wn:World) (g1 g2 gb:Nat),(By16 w S A0 A1 A2 A3 A4 n0 n1 n2 n3 n4 c0 c1 c2 c3 c4 sq wn)->(Blk wn (w.heap.size + 1) 122 #[.slice none 0 0,.slice none 0 0])->(Bb13 wn g1 n1 (fun _ => false))->(w.heap.size + 2<=g1)->(Ib13 wn g2 n0 (fun _ => 0))->(w.heap.size + 2<=g2)->(Blk wn gb 122 #[.slice (some ⟨g1,0,none⟩) n1 n1,.slice (some ⟨g2,0,none⟩) n0 n0])->(w.heap.size + 2<=gb)->G ((((a.put (some 9) (.slice (some ⟨g1,0,none⟩) n1 n1)).put (some 13) (.slice (some ⟨g2,0,none⟩) n0 n0)).put (some 3) (.pointer (some ⟨gb,0,none⟩))).put (some 14) (.agg #[.slice (some ⟨g1,0,none⟩) n1 n1,.slice (some ⟨g2,0,none⟩) n0 n0])) wn) 0 #[true,true,true,true,true,true,true,true,true,true,true] ?_ ?_
 ·
  try simp only [Act.put,pt1,pt2,pt3]
  intro wn g1 g2 gb HBS HR HM1 HFg1 HM2 HFg2 HV HFgb;have HBS:=qz HBS;have HR:=qz HR;have HM1:=qz HM1;have HFg1:=qz HFg1;have HM2:=qz HM2;have HFg2:=qz HFg2;have HV:=qz HV;have HFgb:=qz HFgb;refine wpAnyH_done (by kernel_rfl) ?_ _;exact hQ _ _ _ _ _ _ _ _ _ _ gb g1 g2 ⟨HBS.out,HR.out,HV.out,HM1.out,HM2.out,HFgb.out,HFg1.out,HFg2.out⟩
 intro key
 (try dsimp only [Act.put] at key); try simp only [pt1,pt2,pt3] at key
 have K_3_7_9_10:=qz key;clear key
 refine memo (fun a G => ∀ (wn:World) (g1 g2 gb:Nat),(By16 w S A0 A1 A2 A3 A4 n0 n1 n2 n3 n4 c0 c1 c2 c3 c4 sq wn)->(Blk wn (w.heap.size + 1) 122 #[.slice none 0 0,.slice none 0 0])->(Bb13 wn g1 n1 (fun _ => false))->(w.heap.size + 2<=g1)->(Ib13 wn g2 n0 (fun _ => 0))->(w.heap.size + 2<=g2)->(Blk wn gb 122 #[.slice none 0 0,.slice none 0 0])->(w.heap.size + 2<=gb)->G ((((a.put (some 9) (.slice (some ⟨g1,0,none⟩) n1 n1)).put (some 13) (.slice (some ⟨g2,0,none⟩) n0 n0)).put (some 3) (.pointer (some ⟨gb,0,none⟩))).put (some 14) (.agg #[.slice (some ⟨g1,0,none⟩) n1 n1,.slice (some ⟨g2,0,none⟩) n0 n0])) wn) 1 #[true,true,true,true,true,true,true,true,true,true,false] ?_ ?_
 ·
  try simp only [Act.put,pt1,pt2,pt3]
  intro wn g1 g2 gb HBS HR HM1 HFg1 HM2 HFg2 HV HFgb;have HBS:=qz HBS;have HR:=qz HR;have HM1:=qz HM1;have HFg1:=qz HFg1;have HM2:=qz HM2;have HFg2:=qz HFg2;have HV:=qz HV;have HFgb:=qz HFgb;refine rdy 10 (fun K hK => ?_);have x0:=HV.out.cell 0;have x1:=HV.out.cell 1;have xf0:=HV.out.frozen 0;have xf1:=HV.out.frozen 1;have HBS0:=HBS;go_simp
  obtain ⟨wm,hwm⟩:=exq ((wn.setCell ⟨gb,0,none⟩ (.slice (some ⟨g1,0,none⟩) n1 n1)).setCell ⟨gb,1,none⟩ (.slice (some ⟨g2,0,none⟩) n0 n0));have hn1:=bb17_blk HM1.out HV.out (by decide);have hn2:=ib17_blk HM2.out HV.out (by decide);have HM1:=qz (show Bb13 wm g1 n1 _ by rw [<- hwm]; exact (HM1.out.far17 hn1 _).far17 hn1 _)
  have HM2:=qz (show Ib13 wm g2 n0 _ by rw [<- hwm]; exact (HM2.out.far hn2 _).far hn2 _);have HR:=qz (show Blk wm (w.heap.size + 1) 122 _ by rw [<- hwm]; exact (HR.out.far (by have:=HFgb.out; simp; omega) _).far (by have:=HFgb.out; simp; omega) _)
  have HBS:=qz (HBS0.out.low (W':=wm) (by rw [<- hwm]; exact ((Below.refl _ _).setCell (by have:=HFgb.out; simp; omega) _).setCell (by have:=HFgb.out; simp; omega) _))
  have HV:=qz (show Blk wm gb 122 #[.slice (some ⟨g1,0,none⟩) n1 n1,.slice (some ⟨g2,0,none⟩) n0 n0] by rw [<- hwm]; simpa using (HV.out.set_ 0 (.slice (some ⟨g1,0,none⟩) n1 n1)).set_ 1 (.slice (some ⟨g2,0,none⟩) n0 n0));rw [hwm];clear hwm x0 x1 xf0 xf1 hn1 hn2 HBS0;obtain ⟨wn,hwn⟩:∃ W,W = wm:=⟨_,rfl⟩
  subst hwn;refine koq hK HBS.out (fun hHeld=>?_);clear hK K;exact K_3_7_9_10.out _ _ _ _ HBS.out HR.out HM1.out HFg1.out HM2.out HFg2.out HV.out HFgb.out
 intro key
 (try dsimp only [Act.put] at key); try simp only [pt1,pt2,pt3] at key
 have K_3_7_9:=qz key;clear key
 refine memo (fun a G => ∀ (wn:World) (g1 gb:Nat),(By16 w S A0 A1 A2 A3 A4 n0 n1 n2 n3 n4 c0 c1 c2 c3 c4 sq wn)->(Blk wn (w.heap.size + 1) 122 #[.slice none 0 0,.slice none 0 0])->(Bb13 wn g1 n1 (fun _ => false))->(w.heap.size + 2<=g1)->(Blk wn gb 122 #[.slice none 0 0,.slice none 0 0])->(w.heap.size + 2<=gb)->G ((a.put (some 9) (.slice (some ⟨g1,0,none⟩) n1 n1)).put (some 3) (.pointer (some ⟨gb,0,none⟩))) wn) 3 #[true,true,true,true,true,true,true,false,false,true,false] ?_ ?_
 ·
  try simp only [Act.put,pt1,pt2,pt3]
  intro wn g1 gb HBS HR HM1 HFg1 HV HFgb;have HBS:=qz HBS;have HR:=qz HR;have HM1:=qz HM1;have HFg1:=qz HFg1;have HV:=qz HV;have HFgb:=qz HFgb;refine rdy 7 (fun K hK => ?_);have HBS0:=HBS;have hbz:=b1' wn (.cells (madeCells #[.int .i64 0] n0) 3);have HBS:=qz (HBS0.out.step hbz);have HM2:=qz (made_i17 wn n0)
  have HFg2:Hid (w.heap.size + 2<=wn.heap.size):=qz (by have:=HR.out.lt; omega);have HR:=qz (HR.out.below hbz HR.out.lt);have HM1:=qz (HM1.out.step hbz);have HV:=qz (HV.out.below hbz HV.out.lt);clear hbz HBS0;obtain ⟨g2,hg2⟩:=exq wn.heap.size;obtain ⟨wm,hwm⟩:=exq (wn.alloc (.cells (madeCells #[.int .i64 0] n0) 3));rw [hwm] at HBS HR HM2 HM1 HV
  rw [hg2] at HM2 HFg2;go_simp;clear hg2 hwm;obtain ⟨wn,hwn⟩:∃ W,W = wm:=⟨_,rfl⟩
  subst hwn;refine koq hK HBS.out (fun hHeld=>?_);clear hK K;refine tkpq hP 8 ?_;exact K_3_7_9.out _ _ _ _ HBS.out HR.out HM1.out HFg1.out HM2.out HFg2.out HV.out HFgb.out
 intro key
 (try dsimp only [Act.put] at key); try simp only [pt1,pt2,pt3] at key
 have K_3_9:=qz key;clear key
 refine memo (fun a G => ∀ (wn:World) (g1 g2:Nat),(By16 w S A0 A1 A2 A3 A4 n0 n1 n2 n3 n4 c0 c1 c2 c3 c4 sq wn)->(Blk wn (w.heap.size + 1) 122 #[.slice none 0 0,.slice none 0 0])->(Bb13 wn g1 n1 (fun _ => false))->(w.heap.size + 2<=g1)->(Ib13 wn g2 n0 (fun _ => 0))->(w.heap.size + 2<=g2)->G (((a.put (some 9) (.slice (some ⟨g1,0,none⟩) n1 n1)).put (some 13) (.slice (some ⟨g2,0,none⟩) n0 n0)).put (some 14) (.agg #[.slice (some ⟨g1,0,none⟩) n1 n1,.slice (some ⟨g2,0,none⟩) n0 n0])) wn) 2 #[true,true,true,true,true,true,true,true,true,false,false] ?_ ?_
 ·
  try simp only [Act.put,pt1,pt2,pt3]
  intro wn g1 g2 HBS HR HM1 HFg1 HM2 HFg2;have HBS:=qz HBS;have HR:=qz HR;have HM1:=qz HM1;have HFg1:=qz HFg1;have HM2:=qz HM2;have HFg2:=qz HFg2;refine rdy 9 (fun K hK => ?_);have HBS0:=HBS;have hbz:=b1' wn (.cells #[.slice none 0 0,.slice none 0 0] 122);have HBS:=qz (HBS0.out.step hbz);have HV:=qz (Blk.new wn 122 #[.slice none 0 0,.slice none 0 0])
  have HFgb:Hid (w.heap.size + 2<=wn.heap.size):=qz (by have:=HR.out.lt; omega);have HR:=qz (HR.out.below hbz HR.out.lt);have HM1:=qz (HM1.out.step hbz);have HM2:=qz (HM2.out.below hbz HM2.out.lt);clear hbz HBS0;obtain ⟨gb,hgb⟩:=exq wn.heap.size;obtain ⟨wm,hwm⟩:=exq (wn.alloc (.cells #[.slice none 0 0,.slice none 0 0] 122));rw [hwm] at HBS HR HV HM1 HM2
  rw [hgb] at HV HFgb;go_simp;clear hgb hwm;obtain ⟨wn,hwn⟩:∃ W,W = wm:=⟨_,rfl⟩
  subst hwn;refine koq hK HBS.out (fun hHeld=>?_);clear hK K;exact K_3_7_9.out _ _ _ _ HBS.out HR.out HM1.out HFg1.out HM2.out HFg2.out HV.out HFgb.out
 intro key
 (try dsimp only [Act.put] at key); try simp only [pt1,pt2,pt3] at key
 have K_3_7:=qz key;clear key
 refine memo (fun a G => ∀ (wn:World) (g2 gb:Nat),(By16 w S A0 A1 A2 A3 A4 n0 n1 n2 n3 n4 c0 c1 c2 c3 c4 sq wn)->(Blk wn (w.heap.size + 1) 122 #[.slice none 0 0,.slice none 0 0])->(Ib13 wn g2 n0 (fun _ => 0))->(w.heap.size + 2<=g2)->(Blk wn gb 122 #[.slice none 0 0,.slice none 0 0])->(w.heap.size + 2<=gb)->G ((a.put (some 13) (.slice (some ⟨g2,0,none⟩) n0 n0)).put (some 3) (.pointer (some ⟨gb,0,none⟩))) wn) 3 #[true,true,true,false,true,true,true,true,false,true,false] ?_ ?_
 ·
  try simp only [Act.put,pt1,pt2,pt3]
  intro wn g2 gb HBS HR HM2 HFg2 HV HFgb;have HBS:=qz HBS;have HR:=qz HR;have HM2:=qz HM2;have HFg2:=qz HFg2;have HV:=qz HV;have HFgb:=qz HFgb;refine rdy 3 (fun K hK => ?_);have HBS0:=HBS;have hbz:=b1' wn (.cells (madeCells #[.bool false] n1) 4);have HBS:=qz (HBS0.out.step hbz);have HM1:=qz (made_b17 wn n1)
  have HFg1:Hid (w.heap.size + 2<=wn.heap.size):=qz (by have:=HR.out.lt; omega);have HR:=qz (HR.out.below hbz HR.out.lt);have HM2:=qz (HM2.out.below hbz HM2.out.lt);have HV:=qz (HV.out.below hbz HV.out.lt);clear hbz HBS0;obtain ⟨g1,hg1⟩:=exq wn.heap.size;obtain ⟨wm,hwm⟩:=exq (wn.alloc (.cells (madeCells #[.bool false] n1) 4));rw [hwm] at HBS HR HM1 HM2 HV
  rw [hg1] at HM1 HFg1;go_simp;clear hg1 hwm;obtain ⟨wn,hwn⟩:∃ W,W = wm:=⟨_,rfl⟩
  subst hwn;refine koq hK HBS.out (fun hHeld=>?_);clear hK K;refine tkpq hP 8 ?_;exact K_3_7_9.out _ _ _ _ HBS.out HR.out HM1.out HFg1.out HM2.out HFg2.out HV.out HFgb.out
 intro key
 (try dsimp only [Act.put] at key); try simp only [pt1,pt2,pt3] at key
 have K_7_9:=qz key;clear key
 refine memo (fun a G => ∀ (wn:World) (gb:Nat),(By16 w S A0 A1 A2 A3 A4 n0 n1 n2 n3 n4 c0 c1 c2 c3 c4 sq wn)->(Blk wn (w.heap.size + 1) 122 #[.slice none 0 0,.slice none 0 0])->(Blk wn gb 122 #[.slice none 0 0,.slice none 0 0])->(w.heap.size + 2<=gb)->G (a.put (some 3) (.pointer (some ⟨gb,0,none⟩))) wn) 4 #[true,true,true,false,true,true,true,false,false,true,false] ?_ ?_
 ·
  try simp only [Act.put,pt1,pt2,pt3]
  intro wn gb HBS HR HV HFgb;have HBS:=qz HBS;have HR:=qz HR;have HV:=qz HV;have HFgb:=qz HFgb;refine wpAnyH_ready (rs:=[3,7]) (by kernel_rfl) (by simp) (rc (fun K hK => ?_) (rc (fun K hK => ?_) AllReadyH.nil))
  ·
   skip;have HBS0:=HBS;have hbz:=b1' wn (.cells (madeCells #[.bool false] n1) 4);have HBS:=qz (HBS0.out.step hbz);have HM1:=qz (made_b17 wn n1);have HFg1:Hid (w.heap.size + 2<=wn.heap.size):=qz (by have:=HR.out.lt; omega);have HR:=qz (HR.out.below hbz HR.out.lt);have HV:=qz (HV.out.below hbz HV.out.lt);clear hbz HBS0;obtain ⟨g1,hg1⟩:=exq wn.heap.size
   obtain ⟨wm,hwm⟩:=exq (wn.alloc (.cells (madeCells #[.bool false] n1) 4));rw [hwm] at HBS HR HM1 HV;rw [hg1] at HM1 HFg1;go_simp;clear hg1 hwm;obtain ⟨wn,hwn⟩:∃ W,W = wm:=⟨_,rfl⟩
   subst hwn;refine koq hK HBS.out (fun hHeld=>?_);clear hK K;exact K_3_9.out _ _ _ HBS.out HR.out HM1.out HFg1.out HV.out HFgb.out
  ·
   skip;have HBS0:=HBS;have hbz:=b1' wn (.cells (madeCells #[.int .i64 0] n0) 3);have HBS:=qz (HBS0.out.step hbz);have HM2:=qz (made_i17 wn n0);have HFg2:Hid (w.heap.size + 2<=wn.heap.size):=qz (by have:=HR.out.lt; omega);have HR:=qz (HR.out.below hbz HR.out.lt);have HV:=qz (HV.out.below hbz HV.out.lt);clear hbz HBS0;obtain ⟨g2,hg2⟩:=exq wn.heap.size
   obtain ⟨wm,hwm⟩:=exq (wn.alloc (.cells (madeCells #[.int .i64 0] n0) 3));rw [hwm] at HBS HR HM2 HV;rw [hg2] at HM2 HFg2;go_simp;clear hg2 hwm;obtain ⟨wn,hwn⟩:∃ W,W = wm:=⟨_,rfl⟩
   subst hwn;refine koq hK HBS.out (fun hHeld=>?_);clear hK K;exact K_7_9.out _ _ _ HBS.out HR.out HM2.out HFg2.out HV.out HFgb.out
 intro key
 (try dsimp only [Act.put] at key); try simp only [pt1,pt2,pt3] at key
 have K_9:=qz key;clear key
 refine memo (fun a G => ∀ (wn:World) (g2:Nat),(By16 w S A0 A1 A2 A3 A4 n0 n1 n2 n3 n4 c0 c1 c2 c3 c4 sq wn)->(Blk wn (w.heap.size + 1) 122 #[.slice none 0 0,.slice none 0 0])->(Ib13 wn g2 n0 (fun _ => 0))->(w.heap.size + 2<=g2)->G (a.put (some 13) (.slice (some ⟨g2,0,none⟩) n0 n0)) wn) 4 #[true,true,true,false,true,true,true,true,false,false,false] ?_ ?_
 ·
  try simp only [Act.put,pt1,pt2,pt3]
  intro wn g2 HBS HR HM2 HFg2;have HBS:=qz HBS;have HR:=qz HR;have HM2:=qz HM2;have HFg2:=qz HFg2;refine wpAnyH_ready (rs:=[3,9]) (by kernel_rfl) (by simp) (rc (fun K hK => ?_) (rc (fun K hK => ?_) AllReadyH.nil))
  ·
   skip;have HBS0:=HBS;have hbz:=b1' wn (.cells (madeCells #[.bool false] n1) 4);have HBS:=qz (HBS0.out.step hbz);have HM1:=qz (made_b17 wn n1);have HFg1:Hid (w.heap.size + 2<=wn.heap.size):=qz (by have:=HR.out.lt; omega);have HR:=qz (HR.out.below hbz HR.out.lt);have HM2:=qz (HM2.out.below hbz HM2.out.lt);clear hbz HBS0;obtain ⟨g1,hg1⟩:=exq wn.heap.size
   obtain ⟨wm,hwm⟩:=exq (wn.alloc (.cells (madeCells #[.bool false] n1) 4));rw [hwm] at HBS HR HM1 HM2;rw [hg1] at HM1 HFg1;go_simp;clear hg1 hwm;obtain ⟨wn,hwn⟩:∃ W,W = wm:=⟨_,rfl⟩
   subst hwn;refine koq hK HBS.out (fun hHeld=>?_);clear hK K;refine tkpq hP 8 ?_;exact K_3_7.out _ _ _ HBS.out HR.out HM1.out HFg1.out HM2.out HFg2.out
  ·
   skip;have HBS0:=HBS;have hbz:=b1' wn (.cells #[.slice none 0 0,.slice none 0 0] 122);have HBS:=qz (HBS0.out.step hbz);have HV:=qz (Blk.new wn 122 #[.slice none 0 0,.slice none 0 0]);have HFgb:Hid (w.heap.size + 2<=wn.heap.size):=qz (by have:=HR.out.lt; omega);have HR:=qz (HR.out.below hbz HR.out.lt);have HM2:=qz (HM2.out.below hbz HM2.out.lt)
   clear hbz HBS0;obtain ⟨gb,hgb⟩:=exq wn.heap.size;obtain ⟨wm,hwm⟩:=exq (wn.alloc (.cells #[.slice none 0 0,.slice none 0 0] 122));rw [hwm] at HBS HR HV HM2;rw [hgb] at HV HFgb;go_simp;clear hgb hwm;obtain ⟨wn,hwn⟩:∃ W,W = wm:=⟨_,rfl⟩
   subst hwn;refine koq hK HBS.out (fun hHeld=>?_);clear hK K;exact K_7_9.out _ _ _ HBS.out HR.out HM2.out HFg2.out HV.out HFgb.out
 intro key
 (try dsimp only [Act.put] at key); try simp only [pt1,pt2,pt3] at key
 have K_7:=qz key;clear key
 refine memo (fun a G => ∀ (wn:World) (g1:Nat),(By16 w S A0 A1 A2 A3 A4 n0 n1 n2 n3 n4 c0 c1 c2 c3 c4 sq wn)->(Blk wn (w.heap.size + 1) 122 #[.slice none 0 0,.slice none 0 0])->(Bb13 wn g1 n1 (fun _ => false))->(w.heap.size + 2<=g1)->G (a.put (some 9) (.slice (some ⟨g1,0,none⟩) n1 n1)) wn) 4 #[true,true,true,true,true,true,true,false,false,false,false] ?_ ?_
 ·
  try simp only [Act.put,pt1,pt2,pt3]
  intro wn g1 HBS HR HM1 HFg1;have HBS:=qz HBS;have HR:=qz HR;have HM1:=qz HM1;have HFg1:=qz HFg1;refine wpAnyH_ready (rs:=[7,9]) (by kernel_rfl) (by simp) (rc (fun K hK => ?_) (rc (fun K hK => ?_) AllReadyH.nil))
  ·
   skip;have HBS0:=HBS;have hbz:=b1' wn (.cells (madeCells #[.int .i64 0] n0) 3);have HBS:=qz (HBS0.out.step hbz);have HM2:=qz (made_i17 wn n0);have HFg2:Hid (w.heap.size + 2<=wn.heap.size):=qz (by have:=HR.out.lt; omega);have HR:=qz (HR.out.below hbz HR.out.lt);have HM1:=qz (HM1.out.step hbz);clear hbz HBS0;obtain ⟨g2,hg2⟩:=exq wn.heap.size
   obtain ⟨wm,hwm⟩:=exq (wn.alloc (.cells (madeCells #[.int .i64 0] n0) 3));rw [hwm] at HBS HR HM2 HM1;rw [hg2] at HM2 HFg2;go_simp;clear hg2 hwm;obtain ⟨wn,hwn⟩:∃ W,W = wm:=⟨_,rfl⟩
   subst hwn;refine koq hK HBS.out (fun hHeld=>?_);clear hK K;refine tkpq hP 8 ?_;exact K_3_7.out _ _ _ HBS.out HR.out HM1.out HFg1.out HM2.out HFg2.out
  ·
   skip;have HBS0:=HBS;have hbz:=b1' wn (.cells #[.slice none 0 0,.slice none 0 0] 122);have HBS:=qz (HBS0.out.step hbz);have HV:=qz (Blk.new wn 122 #[.slice none 0 0,.slice none 0 0]);have HFgb:Hid (w.heap.size + 2<=wn.heap.size):=qz (by have:=HR.out.lt; omega);have HR:=qz (HR.out.below hbz HR.out.lt);have HM1:=qz (HM1.out.step hbz);clear hbz HBS0
   obtain ⟨gb,hgb⟩:=exq wn.heap.size;obtain ⟨wm,hwm⟩:=exq (wn.alloc (.cells #[.slice none 0 0,.slice none 0 0] 122));rw [hwm] at HBS HR HV HM1;rw [hgb] at HV HFgb;go_simp;clear hgb hwm;obtain ⟨wn,hwn⟩:∃ W,W = wm:=⟨_,rfl⟩
   subst hwn;refine koq hK HBS.out (fun hHeld=>?_);clear hK K;exact K_3_9.out _ _ _ HBS.out HR.out HM1.out HFg1.out HV.out HFgb.out
 intro key
 (try dsimp only [Act.put] at key); try simp only [pt1,pt2,pt3] at key
 have K_3:=qz key;clear key;refine wpAnyH_ready (rs:=[3,7,9]) (by kernel_rfl) (by simp) (rc (fun K hK => ?_) (rc (fun K hK => ?_) (rc (fun K hK => ?_) AllReadyH.nil)))
 ·
  skip;have HBS0:=HBS;have hbz:=b1' wn (.cells (madeCells #[.bool false] n1) 4);have HBS:=qz (HBS0.out.step hbz);have HM1:=qz (made_b17 wn n1);have HFg1:Hid (w.heap.size + 2<=wn.heap.size):=qz (by have:=HR.out.lt; omega);have HR:=qz (HR.out.below hbz HR.out.lt);clear hbz HBS0;obtain ⟨g1,hg1⟩:=exq wn.heap.size
  obtain ⟨wm,hwm⟩:=exq (wn.alloc (.cells (madeCells #[.bool false] n1) 4));rw [hwm] at HBS HR HM1;rw [hg1] at HM1 HFg1;go_simp;clear hg1 hwm;obtain ⟨wn,hwn⟩:∃ W,W = wm:=⟨_,rfl⟩
  subst hwn;refine koq hK HBS.out (fun hHeld=>?_);clear hK K;exact K_3.out _ _ HBS.out HR.out HM1.out HFg1.out
 ·
  skip;have HBS0:=HBS;have hbz:=b1' wn (.cells (madeCells #[.int .i64 0] n0) 3);have HBS:=qz (HBS0.out.step hbz);have HM2:=qz (made_i17 wn n0);have HFg2:Hid (w.heap.size + 2<=wn.heap.size):=qz (by have:=HR.out.lt; omega);have HR:=qz (HR.out.below hbz HR.out.lt);clear hbz HBS0;obtain ⟨g2,hg2⟩:=exq wn.heap.size
  obtain ⟨wm,hwm⟩:=exq (wn.alloc (.cells (madeCells #[.int .i64 0] n0) 3));rw [hwm] at HBS HR HM2;rw [hg2] at HM2 HFg2;go_simp;clear hg2 hwm;obtain ⟨wn,hwn⟩:∃ W,W = wm:=⟨_,rfl⟩
  subst hwn;refine koq hK HBS.out (fun hHeld=>?_);clear hK K;exact K_7.out _ _ HBS.out HR.out HM2.out HFg2.out
 ·
  skip;have HBS0:=HBS;have hbz:=b1' wn (.cells #[.slice none 0 0,.slice none 0 0] 122);have HBS:=qz (HBS0.out.step hbz);have HV:=qz (Blk.new wn 122 #[.slice none 0 0,.slice none 0 0]);have HFgb:Hid (w.heap.size + 2<=wn.heap.size):=qz (by have:=HR.out.lt; omega);have HR:=qz (HR.out.below hbz HR.out.lt);clear hbz HBS0;obtain ⟨gb,hgb⟩:=exq wn.heap.size
  obtain ⟨wm,hwm⟩:=exq (wn.alloc (.cells #[.slice none 0 0,.slice none 0 0] 122));rw [hwm] at HBS HR HV;rw [hgb] at HV HFgb;go_simp;clear hgb hwm;obtain ⟨wn,hwn⟩:∃ W,W = wm:=⟨_,rfl⟩
  subst hwn;refine koq hK HBS.out (fun hHeld=>?_);clear hK K;exact K_9.out _ _ HBS.out HR.out HV.out HFgb.out
end
theorem summed17 (v:Value) (S:Sv14) (w:World) (h:St14 w v S) (hf:Fine14 S) :
  Calls Tryz.prog 99 #[v] w (RetSu17 w S):=by
 obtain ⟨A0,A1,A2,A3,A4,n0,n1,n2,n3,n4,c0,c1,c2,c3,c4,sq,rfl,hs⟩:=h;obtain ⟨os,hd⟩:=done13_ex (Ca15 S) S.C.length;have hl:os.length = S.C.length:=Done13.full (in13_cut _ _) hd (free15_ring.1 hf.2.2.2.2.2.2.2.2.1)
 have HP:Hid (RetSu17 w S = fun e w' => ∃ g1 g2,e = .returned (.agg #[.slice (some ⟨g1,0,none⟩) n1 n1,.slice (some ⟨g2,0,none⟩) n0 n0])/\w.heap.size<=g1/\w.heap.size<=g2/\Bb13 w' g1 n1 (cntb17 S)/\Ib13 w' g2 n0 (fun x => amn17 S ((x:Nat):Int))/\Below w.heap.size w w'):=qz (by unfold RetSu17; rw [hs.l0,hs.l1])
 have hx0:By16 w S A0 A1 A2 A3 A4 n0 n1 n2 n3 n4 c0 c1 c2 c3 c4 sq _:=⟨Bx14.new hs,hs⟩
 have hb2:=b1' (w.alloc (.cells #[.slice A0 n0 c0,.slice A1 n1 c1,.slice A2 n2 c2,.slice A3 n3 c3,.slice A4 n4 c4,.int .i64 sq] 28)) (.cells #[.slice none 0 0,.slice none 0 0] 122);have ho2:=Blk.new (w.alloc (.cells #[.slice A0 n0 c0,.slice A1 n1 c1,.slice A2 n2 c2,.slice A3 n3 c3,.slice A4 n4 c4,.int .i64 sq] 28)) 122 #[.slice none 0 0,.slice none 0 0]
 rw [show (w.alloc (.cells #[.slice A0 n0 c0,.slice A1 n1 c1,.slice A2 n2 c2,.slice A3 n3 c3,.slice A4 n4 c4,.int .i64 sq] 28)).heap.size = w.heap.size + 1 by simp] at ho2;have hx2:=hx0.step hb2
 obtain ⟨W2,hW2⟩:=exq ((w.alloc (.cells #[.slice A0 n0 c0,.slice A1 n1 c1,.slice A2 n2 c2,.slice A3 n3 c3,.slice A4 n4 c4,.int .i64 sq] 28)).alloc (.cells #[.slice none 0 0,.slice none 0 0] 122));rw [hW2] at ho2 hx2;have HX2:=qz hx2;have HO2:=qz ho2;have hm0:=hs.m0;have hm1:=hs.m1
 have HOR:=qz (fun W (h:Bx14 w S A0 A1 A2 A3 A4 n0 n1 n2 n3 n4 c0 c1 c2 c3 c4 sq W) => order17 _ S os W h.st hd hl);have HBA:=qz (fun A N c W => back13_calls A N c W);have HF:=qz hf;have HD:=qz hd.1;have HL:=qz hl;have HL0:=qz hs.l0
 have HNL:Hid ((ord15 S os).length<=1000):=qz (by
  have h1:=List.length_filter_le (fun (x:Nat) => us14 usC S.C (x:Int)) os;have h2:=hs.l0;unfold ord15
  omega)
 clear hs hx0 hb2 hx2 ho2 hd hl hf;refine calls_of_leave Tryz.func99 rfl ?_;simp only [Tryz.ntmps99,List.size_toArray,List.length_cons,List.length_nil,Nat.reduceAdd,Nat.reduceSub,Array.replicate_succ,Array.replicate_zero,List.push_toArray,List.append_toArray,List.nil_append,List.cons_append];go_upto_region 1 with (fail)
 refine made17 hm0 hm1 HX2.out HO2.out (fun _ _ _ _ _ h => h) (fun x6 x7 x8 x9 x10 x11 x12 x13 x14 wn gb g1 g2 hsu => ?_);have HSU:=qz hsu;obtain ⟨x0,x1,x2,x3,x4,x5⟩:=ce6 hsu.b.b.x;clear hsu HX2 HO2 hW2;go_wp2_with fail;refine (HOR.out _ HSU.out.b.b).mono ?_;rintro e w3 ⟨A,ca,rfl,hr3,hfa3,hb3⟩;obtain ⟨ns,hns⟩:=exq (ord15 S os);obtain ⟨m,hm⟩:=exq ns.length
 have hmn:=HNL.out;rw [hns] at hr3 hfa3 hmn ⊢;rw [hm] at hmn ⊢;have HNS:=qz hns;have HM:=qz hm;have HW3:=qz (HSU.out.step hb3);have HR3:=qz hr3;have HA3:=qz (hfa3);have HB3:=qz hb3;clear hr3 hfa3 hb3 HNL hns hm x0 x1 x2 x3 x4 x5;go_wp2_with fail;refine (HBA.out A m ca _).mono ?_;rintro e W0 ⟨rfl,hW0⟩
 have hsz0:W0.heap.size = w3.heap.size + 1:=by rw [hW0]; simp
 have hb0:Below w3.heap.size w3 W0:=by rw [hW0]; exact b1' _ _
 have f2:W0.cell? ⟨w3.heap.size,0,none⟩ = some (.slice A m ca):=by rw [hW0]; exact (Blk.new w3 26 #[.slice A m ca]).cell 0
 have hr0:Rd W0 W0.heap.size A ns:=(HR3.out.below hb0 (Nat.le_refl _)).more hb0.size;have hgo:=back17_goes Fence.wide 4 trivial rfl (by omega) w3.heap.size m ca A ns W0 HM.out hr0 (by omega) f2;have hsu0:=HW3.out.step hb0;have hg1w:g1 < wn.heap.size:=HSU.out.r1.lt17;have hg2w:g2 < wn.heap.size:=HSU.out.r2.lt;have hgbw:gb < wn.heap.size:=HSU.out.v.lt
 have hw3s:=HB3.out.size;have hwww:w.heap.size + 1 < wn.heap.size:=HSU.out.o.lt;have HI0:Hid (∃ M Am,Lb17 S ns (m - 0) M Am/\Su17 w S A0 A1 A2 A3 A4 n0 n1 n2 n3 n4 c0 c1 c2 c3 c4 sq gb g1 g2 M Am W0):=qz ⟨_,_,lb17_start S ns HM.out,hsu0⟩
 have HSK:Hid (∀ (k:Nat) (p:Addr),bkeep17 w3.heap.size A ns k p->p.block < W0.heap.size):=qz (fun k p hp => by
  rcases hp with h | ⟨hx,q,h1,h2⟩
  · omega
  ·
   obtain ⟨b,o,h3,h4,_⟩:=hr0 hx;rw [h1] at h3;injection h3 with h3
   rw [h2,h3]
   exact h4)
 have HSN:Hid (∀ (k:Nat) (p:Addr),bkeep17 w3.heap.size A ns k p->p.block≠g1/\p.block≠g2):=qz (fun k p hp => by
  rcases hp with h | ⟨hx,q,h1,h2⟩
  · exact ⟨by omega,by omega⟩
  ·
   obtain ⟨b,o,h3,h4⟩:=HA3.out hx;rw [h1] at h3;injection h3 with h3
   rw [h2,h3]
   exact ⟨by show b≠g1; omega,by show b≠g2; omega⟩)
 clear f2 hb0 hW0 hr0 hsu0;go_wp2_with fail;refine (wpIn_wide (n:=5)).1 ?_
 refine wpIn_rangeFunc_goes rfl (by omega) (gf:=130) (lb:=#[.pointer (some ⟨w3.heap.size,0,none⟩)]) rfl trivial (enters_of Tryz.func130 (by kernel_rfl) rfl)
  hgo HSK.out (Below.refl _ _) (fun _ => rfl)
  (fun k W => ∃ M Am,Lb17 S ns (m - k) M Am/\Su17 w S A0 A1 A2 A3 A4 n0 n1 n2 n3 n4 c0 c1 c2 c3 c4 sq gb g1 g2 M Am W)
  (fun c k W => False)
  (fun s X Y row hs hg hr => by
   obtain ⟨M,Am,h1,h2⟩:=hs
   exact ⟨M,Am,h1,h2.kept hg (by omega) hr⟩)
  (fun c s X Y row hs hg hr => hs.elim)
  HI0.out ?round ?done ?stop
 case round =>
  clear HI0 hgo;intro l k W hk _;simp only [benc17];gi_wp2;refine ⟨trivial,?_⟩;rintro Wb ⟨M,Am,hlb,hsu⟩;obtain ⟨d,hd⟩:=exq (m - 1 - k);have hd1:m - k = d + 1:=by omega
  have hdm:d < m:=by omega
  have hd2:m - (k + 1) = d:=by omega
  rw [HM.out,hd];rw [hd1] at hlb;obtain ⟨x,hx⟩:=exq (nth ns d);rw [hx]
  have hux:us14 usC S.C (x:Int) = true:=by
   have h:=ord15_used (S:=S) (os:=os) (k:=d) (by rw [HNS.out,HM.out]; exact hdm)
   rwa [HNS.out,hx] at h
  have hpre:=Lb17.pre (c:=x) HF.out.2.2.2.2.1 HD.out HL.out (by rw [HNS.out,HM.out]; exact hdm) (by rw [HNS.out]; exact hlb) (by rw [HNS.out]; exact hx);have hnext:=Lb17.next (c:=x) HF.out.2.2.2.2.1 HD.out HL.out (by rw [HNS.out,HM.out]; exact hdm) (by rw [HNS.out]; exact hlb) (by rw [HNS.out]; exact hx);rw [HNS.out] at hnext
  have hadd:=add17 w S A0 A1 A2 A3 A4 n0 n1 n2 n3 n4 c0 c1 c2 c3 c4 sq g1 g2 x M Am Wb hsu.b.s HF.out hsu.b.b.b hsu.r1 hsu.r2 (by have:=hsu.f1; omega) (by have:=hsu.f2; omega) hsu.ne.1 hux hpre.1 hpre.2;have HAD:=qz (CallsIn.inRound l (callsIn_wide (n:=2).2 hadd));have HNX:=qz hnext;have HSB:=qz hsu;have y0:=hsu.v.cell 0;have y1:=hsu.v.cell 1
  obtain ⟨z0,z1,z2,z3,z4,z5⟩:=ce6 hsu.b.b.x;clear hlb hsu hx hux hpre hnext hadd;gi_wp2_with fail;refine ⟨trivial,?_⟩;refine HAD.out.mono ?_;rintro e WX ⟨rfl,hk1,h1,h2⟩;have HT:=qz (HSB.out.turn hk1 h1 h2);have HKO:=qz (bk17_others hk1 HSB.out.r1 HSB.out.r2)
  have HSM:Hid (Same (bkeep17 w3.heap.size A ns k) Wb WX):=qz ⟨hk1.size,fun p v hp hv => by
   have hn:=HSN.out k p hp;have hlt:=World.block_lt_of_cell? _ _ hv
   exact (World.cell?_of_block (hk1.keep p.block hlt hn.1 (by simpa using hn.2))).trans hv⟩
  clear HAD hk1 h1 h2 y0 y1 z0 z1 z2 z3 z4 z5;gi_wp2_with fail;refine ⟨HKO.out.from _,HSM.out,?_⟩;show ∃ M Am,Lb17 S ns (m - (k + 1)) M Am/\_;rw [hd2];exact ⟨_,_,HNX.out,HT.out⟩
 case done =>
  clear HI0 hgo;rintro D W hD ⟨M,Am,hlb,hsu⟩ hK;rw [Nat.sub_self] at hlb;obtain ⟨he1,he2⟩:=Lb17.end_ HF.out.2.2.2.2.1 HD.out HL.out (by rw [HNS.out]; exact hlb);obtain rfl:M = cntb17 S:=funext he1;obtain rfl:Am = fun x => amn17 S ((x:Nat):Int):=funext he2
  have v0:=hsu.v.cell 0;have v1:=hsu.v.cell 1;have p0:=hsu.o.cell 0;have p1:=hsu.o.cell 1;have q0:=hsu.o.frozen 0;have q1:=hsu.o.frozen 1;have hg1:=hsu.f1;have hg2:=hsu.f2;obtain ⟨W5,hW5⟩:=exq ((W.setCell ⟨w.heap.size + 1,0,none⟩ (.slice (some ⟨g1,0,none⟩) n1 n1)).setCell ⟨w.heap.size + 1,1,none⟩ (.slice (some ⟨g2,0,none⟩) n0 n0))
  have ho5:Blk W5 (w.heap.size + 1) 122 #[.slice (some ⟨g1,0,none⟩) n1 n1,.slice (some ⟨g2,0,none⟩) n0 n0]:=by rw [<- hW5]; simpa using (hsu.o.set_ 0 (.slice (some ⟨g1,0,none⟩) n1 n1)).set_ 1 (.slice (some ⟨g2,0,none⟩) n0 n0)
  have hK5:W5.heap[D]? = some (.deferred (some [])):=by rw [<- hW5]; exact (KeepsOthers.setCell _ _ _).same _ _ ((KeepsOthers.setCell _ _ _).same _ _ hK rfl) rfl
  have hB5:Below w.heap.size w W5:=by rw [<- hW5]; exact (hsu.b.b.b.setCell (by simp) _).setCell (by simp) _
  have hr1:Bb13 W5 g1 n1 (cntb17 S):=by rw [<- hW5]; exact (hsu.r1.far17 (by simp; omega) _).far17 (by simp; omega) _
  have hr2:Ib13 W5 g2 n0 (fun x => amn17 S ((x:Nat):Int)):=by rw [<- hW5]; exact (hsu.r2.far (by simp; omega) _).far (by simp; omega) _
  have m0:=mark_cell hK5 (show W5.cell? ⟨w.heap.size + 1,0,none⟩ = some (.slice (some ⟨g1,0,none⟩) n1 n1) from ho5.cell 0);have m1:=mark_cell hK5 (show W5.cell? ⟨w.heap.size + 1,1,none⟩ = some (.slice (some ⟨g2,0,none⟩) n0 n0) from ho5.cell 1);have HB5:=qz (mark_below hB5 hK5 (by have:=HB3.out.size; omega))
  have HR1:=qz (bb17_kept hr1 (grownBy_putObj' W5 D (.deferred none)) (fun r e => by cases e; exact ⟨_,hK5,rfl⟩));have HR2:=qz (ib17_kept hr2 (grownBy_putObj' W5 D (.deferred none)) (fun r e => by cases e; exact ⟨_,hK5,rfl⟩));have HK5:=qz hK5;have HG:Hid (w.heap.size<=g1/\w.heap.size<=g2):=qz ⟨by omega,by omega⟩
  clear hlb hsu hK he1 he2 ho5 hK5 hB5 hr1 hr2 hg1 hg2;go_wp2_with fail;rw [HP.out];exact leave_mark (v:=.agg #[.slice (some ⟨g1,0,none⟩) n1 n1,.slice (some ⟨g2,0,none⟩) n0 n0]) HK5.out (by simp [results,Tryz.results99,go_sem,m0,m1]) ⟨g1,g2,rfl,HG.out.1,HG.out.2,HR1.out,HR2.out,HB5.out⟩
 case stop =>
  rintro D c k W hD hk h hK;exact h.elim
end
end Go.Proofs.YtkdmnlihpebbkaaGreat
