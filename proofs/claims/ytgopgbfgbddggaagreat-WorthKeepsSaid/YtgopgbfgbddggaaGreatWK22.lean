/-
  SaidWorthKeeps, part 22 of 30: what the theorem worthKeeps_holds reaches.
-/
import Derived.Test.YtgopgbfgbddggaaGreatWK21
set_option linter.all false
namespace Go.Proofs.YtgopgbfgbddggaaGreat
open Go.RowKit
set_option maxRecDepth 100000
theorem lives17 (v:Value) (S:Sv14) (i:Int) (w:World) (h:St14 w v S) (hf:Fine14 S) :
  Calls Tryz.prog 131 #[v,.int .i64 i] w fun e w' => e = .returned (.bool (livb17 S i))∧Below w.heap.size w w':=by
 obtain ⟨l,hl⟩:=tl16_ex hf i
 rw [← lv17_of hf hl]
 exact lives16 v S i l w h hf hl
set_option maxHeartbeats 2000000 in
theorem awake17 (A1:Option Addr) (m c1 g2 n c2:Nat) (Am:Nat→Nat) (t:Int) (w:World) (hr:Ib13 w g2 n Am) (b:Bool) (hb:aw17 n Am t = b) :
  Calls Tryz.prog 132 #[.agg #[.slice A1 m c1,.slice (some ⟨g2,0,none⟩) n c2],.int .i64 t] w fun e w' => e = .returned (.bool b)∧Below w.heap.size w w':=by
 have hk:=Blk.new w 111 #[.slice A1 m c1,.slice (some ⟨g2,0,none⟩) n c2]
 have hb1:=b1' w (.cells #[.slice A1 m c1,.slice (some ⟨g2,0,none⟩) n c2] 111)
 have x1:=hk.cell 1
 by_cases h0:0≤t
 ·
  by_cases h1:t < (n:Int)
  ·
   obtain ⟨k,rfl⟩:∃ k:Nat,t = (k:Int):=⟨t.toNat,by omega⟩
   rw [aw17_in (by omega)] at hb
   have q0:=((hr.below hb1 hr.lt).cells (show k < n by omega)).1
   obtain ⟨z,hz⟩:∃ z,Am k = z:=⟨_,rfl⟩
   rw [hz] at q0 hb
   obtain ⟨W1,hW1⟩:∃ W,w.alloc (.cells #[.slice A1 m c1,.slice (some ⟨g2,0,none⟩) n c2] 111) = W:=⟨_,rfl⟩
   rw [hW1] at hb1 x1 q0
   have HB1:=Lib.hid hb1
   clear hr hz hk hb1
   by_cases hz0:0 < z
   ·
    obtain rfl:b = true:=by rw [← hb]; simp [hz0]
    have z1:(0:Int) < (z:Int):=by omega
    have HZ:=Lib.hid hz0
    clear hb
    go_enter Tryz.func132,Tryz.ntmps132
    go_wp2_with fail
    go_ret
    exact ⟨by simp [HZ.out],HB1.out⟩
   ·
    obtain rfl:b = false:=by rw [← hb]; simp [hz0]
    obtain rfl:z = 0:=by omega
    clear hb hz0
    go_enter Tryz.func132,Tryz.ntmps132
    go_wp2_with fail
    go_ret
    exact ⟨rfl,HB1.out⟩
  ·
   obtain rfl:false = b:=by rw [← hb,aw17_out (fun h => h1 h.2)]
   have HB1:=Lib.hid hb1
   clear hr hb hk hb1
   go_enter Tryz.func132,Tryz.ntmps132
   go_wp2_with fail
   go_ret
   exact ⟨rfl,HB1.out⟩
 ·
  obtain rfl:false = b:=by rw [← hb,aw17_out (fun h => h0 h.1)]
  have HB1:=Lib.hid hb1
  clear hr hb hk hb1 x1
  go_enter Tryz.func132,Tryz.ntmps132
  go_wp2_with fail
  go_ret
  exact ⟨rfl,HB1.out⟩
set_option maxHeartbeats 4000000 in
theorem lets17 (S:Sv14) (A0 A1 A2 A3 A4:Option Addr) (n0 n1 n2 n3 n4 c0 c1 c2 c3 c4:Nat) (sq:Int) (B1:Option Addr) (m d1 g2 n d2:Nat) (Am:Nat→Nat) (xu:Bool) (xc xa xk xt:Int) (xo:Bool) (w:World) (hs:SA14 w S A0 A1 A2 A3 A4 n0 n1 n2 n3 n4 c0 c1 c2 c3 c4 sq) (hf:Fine14 S) (hr:Ib13 w g2 n Am) :
  Calls Tryz.prog 119 #[.agg #[.slice B1 m d1,.slice (some ⟨g2,0,none⟩) n d2],(.agg #[.slice A0 n0 c0,.slice A1 n1 c1,.slice A2 n2 c2,.slice A3 n3 c3,.slice A4 n4 c4,.int .i64 sq]),.agg #[.bool xu,.int .i64 xc,.int .i64 xa,.int .i64 xk,.int .i64 xt,.bool xo]] w fun e w' => e = .returned (.bool (lts17 S n Am xk xt))∧Below w.heap.size w w':=by
 have hb1:=b1' w (.cells #[.slice B1 m d1,.slice (some ⟨g2,0,none⟩) n d2] 111)
 have hk1:=Blk.new w 111 #[.slice B1 m d1,.slice (some ⟨g2,0,none⟩) n d2]
 have hz1:(w.alloc (.cells #[.slice B1 m d1,.slice (some ⟨g2,0,none⟩) n d2] 111)).heap.size = w.heap.size + 1:=by simp
 obtain ⟨wa,hwa⟩:∃ W,w.alloc (.cells #[.slice B1 m d1,.slice (some ⟨g2,0,none⟩) n d2] 111) = W:=⟨_,rfl⟩
 rw [hwa] at hb1 hk1 hz1
 have hb2:=b1' wa (.cells #[.slice A0 n0 c0,.slice A1 n1 c1,.slice A2 n2 c2,.slice A3 n3 c3,.slice A4 n4 c4,.int .i64 sq] 28)
 have hk2:=Blk.new wa 28 #[.slice A0 n0 c0,.slice A1 n1 c1,.slice A2 n2 c2,.slice A3 n3 c3,.slice A4 n4 c4,.int .i64 sq]
 have hz2:(wa.alloc (.cells #[.slice A0 n0 c0,.slice A1 n1 c1,.slice A2 n2 c2,.slice A3 n3 c3,.slice A4 n4 c4,.int .i64 sq] 28)).heap.size = w.heap.size + 2:=by simp [hz1]
 rw [hz1] at hk2
 obtain ⟨wb,hwb⟩:∃ W,wa.alloc (.cells #[.slice A0 n0 c0,.slice A1 n1 c1,.slice A2 n2 c2,.slice A3 n3 c3,.slice A4 n4 c4,.int .i64 sq] 28) = W:=⟨_,rfl⟩
 rw [hwb] at hb2 hk2 hz2
 have hb3:=b1' wb (.cells #[.bool xu,.int .i64 xc,.int .i64 xa,.int .i64 xk,.int .i64 xt,.bool xo] 53)
 have hk3:=Blk.new wb 53 #[.bool xu,.int .i64 xc,.int .i64 xa,.int .i64 xk,.int .i64 xt,.bool xo]
 rw [hz2] at hk3
 obtain ⟨wc,hwc⟩:∃ W,wb.alloc (.cells #[.bool xu,.int .i64 xc,.int .i64 xa,.int .i64 xk,.int .i64 xt,.bool xo] 53) = W:=⟨_,rfl⟩
 rw [hwc] at hb3 hk3
 have hg2:=hb1.trans (hb2.mono hb1.size)
 have hg:=hg2.trans (hb3.mono hg2.size)
 have HB:=Lib.hid hg
 have HLV:=Lib.hid (lives17 (.agg #[.slice A0 n0 c0,.slice A1 n1 c1,.slice A2 n2 c2,.slice A3 n3 c3,.slice A4 n4 c4,.int .i64 sq]) S xt wc ⟨A0,A1,A2,A3,A4,n0,n1,n2,n3,n4,c0,c1,c2,c3,c4,sq,rfl,hs.step hg⟩ hf)
 have HAW:=Lib.hid (awake17 B1 m d1 g2 n d2 Am xt wc (hr.below hg hr.lt) _ rfl)
 have ha:=(hk1.below hb2 hk1.lt).below hb3 (by have:=hk1.lt; have:=hb2.size; omega)
 have hx:=hk2.below hb3 hk2.lt
 have y0:=ha.cell 0
 have y1:=ha.cell 1
 have x0:=hx.cell 0
 have x1:=hx.cell 1
 have x2:=hx.cell 2
 have x3:=hx.cell 3
 have x4:=hx.cell 4
 have x5:=hx.cell 5
 have t3:=hk3.cell 3
 have t4:=hk3.cell 4
 clear hb1 hb2 hb3 hk1 hk2 hk3 hg2 hg ha hx hs hr hf
 by_cases k1:xk = 1
 ·
  have HE:Hid (lts17 S n Am xk xt = livb17 S xt):=Lib.hid (by rw [lts17,if_pos k1])
  rw [HE.out]
  subst k1
  clear HAW y0 y1 HE
  go_enter Tryz.func119,Tryz.ntmps119
  go_wp2_with fail
  refine HLV.out.mono ?_
  rintro e w4 ⟨rfl,hb4⟩
  have HB4:=Lib.hid (HB.out.trans (hb4.mono HB.out.size))
  clear HLV hb4
  go_wp2_with fail
  go_ret
  exact ⟨rfl,HB4.out⟩
 ·
  have k1b:(xk == 1) = false:=by simp [k1]
  by_cases k2:xk = 2
  ·
   have HE:Hid (lts17 S n Am xk xt = aw17 n Am xt):=Lib.hid (by rw [lts17,if_neg k1,if_pos k2])
   rw [HE.out]
   subst k2
   clear HLV x0 x1 x2 x3 x4 x5 HE k1 k1b
   go_enter Tryz.func119,Tryz.ntmps119
   go_wp2_with fail
   refine HAW.out.mono ?_
   rintro e w4 ⟨rfl,hb4⟩
   have HB4:=Lib.hid (HB.out.trans (hb4.mono HB.out.size))
   clear HAW hb4
   go_wp2_with fail
   go_ret
   exact ⟨rfl,HB4.out⟩
  ·
   have k2b:(xk == 2) = false:=by simp [k2]
   have HE:Hid (lts17 S n Am xk xt = false):=Lib.hid (by rw [lts17,if_neg k1,if_neg k2])
   rw [HE.out]
   clear HLV HAW x0 x1 x2 x3 x4 x5 y0 y1 HE k1 k2
   go_enter Tryz.func119,Tryz.ntmps119
   go_wp2_with fail
   go_ret
   exact ⟨rfl,HB.out⟩
structure Ad17 (w0 w:World) (S:Sv14) (A0 A1 A2 A3 A4:Option Addr) (n0 n1 n2 n3 n4 c0 c1 c2 c3 c4:Nat) (sq:Int) (g1 g2:Nat) (M:Nat→Bool) (Am:Nat→Nat) (A:Option Addr) (l:List Nat) (W:World):Prop where
 k:Bk13 w0.heap.size g1 (some g2) w W
 b:Below w0.heap.size w0 W
 x:Blk W (w.heap.size + 1) 28 #[.slice A0 n0 c0,.slice A1 n1 c1,.slice A2 n2 c2,.slice A3 n3 c3,.slice A4 n4 c4,.int .i64 sq]
 y:Blk W w.heap.size 111 #[.slice (some ⟨g1,0,none⟩) n1 n1,.slice (some ⟨g2,0,none⟩) n0 n0]
 r1:Bb13 W g1 n1 M
 r2:Ib13 W g2 n0 Am
 r:Rd W W.heap.size A l
 f:Fa17 w.heap.size A l
 s:SA14 w0 S A0 A1 A2 A3 A4 n0 n1 n2 n3 n4 c0 c1 c2 c3 c4 sq
 e1:g1 < w.heap.size
 e2:g2 < w.heap.size
 f1:w0.heap.size≤g1
 f2:w0.heap.size≤g2
 ne:g1≠g2
theorem Ad17.sa {w0 w:World} {S:Sv14} {A0 A1 A2 A3 A4:Option Addr} {n0 n1 n2 n3 n4 c0 c1 c2 c3 c4:Nat} {sq:Int} {g1 g2:Nat} {M:Nat→Bool} {Am:Nat→Nat} {A:Option Addr} {l:List Nat} {W:World} (h:Ad17 w0 w S A0 A1 A2 A3 A4 n0 n1 n2 n3 n4 c0 c1 c2 c3 c4 sq g1 g2 M Am A l W):SA14 W S A0 A1 A2 A3 A4 n0 n1 n2 n3 n4 c0 c1 c2 c3 c4 sq:=h.s.step h.b
theorem Ad17.step {w0 w:World} {S:Sv14} {A0 A1 A2 A3 A4:Option Addr} {n0 n1 n2 n3 n4 c0 c1 c2 c3 c4:Nat} {sq:Int} {g1 g2:Nat} {M:Nat→Bool} {Am:Nat→Nat} {A:Option Addr} {l:List Nat} {W W':World} (h:Ad17 w0 w S A0 A1 A2 A3 A4 n0 n1 n2 n3 n4 c0 c1 c2 c3 c4 sq g1 g2 M Am A l W) (hb:Below W.heap.size W W'):Ad17 w0 w S A0 A1 A2 A3 A4 n0 n1 n2 n3 n4 c0 c1 c2 c3 c4 sq g1 g2 M Am A l W' :=
 ⟨bk17_trans h.k (bk17_below h.b.size hb),h.b.trans (hb.mono h.b.size),h.x.below hb h.x.lt,h.y.below hb h.y.lt,h.r1.step hb,h.r2.below hb h.r2.lt,(h.r.below hb (Nat.le_refl _)).more hb.size,h.f,h.s,h.e1,h.e2,h.f1,h.f2,h.ne⟩
theorem Ad17.congr {w0 w:World} {S:Sv14} {A0 A1 A2 A3 A4:Option Addr} {n0 n1 n2 n3 n4 c0 c1 c2 c3 c4:Nat} {sq:Int} {g1 g2:Nat} {M M':Nat→Bool} {Am Am':Nat→Nat} {A:Option Addr} {l:List Nat} {W:World} (h:Ad17 w0 w S A0 A1 A2 A3 A4 n0 n1 n2 n3 n4 c0 c1 c2 c3 c4 sq g1 g2 M Am A l W) (e1:M = M') (e2:Am = Am'):Ad17 w0 w S A0 A1 A2 A3 A4 n0 n1 n2 n3 n4 c0 c1 c2 c3 c4 sq g1 g2 M' Am' A l W:=e1 ▸ e2 ▸ h
theorem rd17_far {L:Nat} {A:Option Addr} {l:List Nat} {W:World} (h:Rd W W.heap.size A l) (hf:Fa17 L A l) {p:Addr} (hp:p.block < L) (u:Value):Rd (W.setCell p u) (W.setCell p u).heap.size A l:=fun hx => by
 obtain ⟨b,o,h1,h2,h3⟩:=h hx
 obtain ⟨b2,o2,h4,h5⟩:=hf hx
 rw [h1] at h4
 injection h4 with h4
 injection h4 with h4
 exact ⟨b,o,h1,by simpa [World.setCell] using h2,fun k hk => (World.cell?_of_block (Below.heap_setCell W p u b (by omega))).trans (h3 k hk)⟩
theorem Ad17.mark {w0 w:World} {S:Sv14} {A0 A1 A2 A3 A4:Option Addr} {n0 n1 n2 n3 n4 c0 c1 c2 c3 c4:Nat} {sq:Int} {g1 g2:Nat} {M:Nat→Bool} {Am:Nat→Nat} {A:Option Addr} {l:List Nat} {W:World} (h:Ad17 w0 w S A0 A1 A2 A3 A4 n0 n1 n2 n3 n4 c0 c1 c2 c3 c4 sq g1 g2 M Am A l W) {j:Nat} (hj:j < n1) (u:Bool):Ad17 w0 w S A0 A1 A2 A3 A4 n0 n1 n2 n3 n4 c0 c1 c2 c3 c4 sq g1 g2 (upd M j u) Am A l (W.setCell ⟨g1,j,none⟩ (.bool u)) :=
 ⟨bk17_trans h.k (bk17_set (p:=⟨g1,j,none⟩) h.f1 (.inl rfl) _),h.b.setCell h.f1 _,h.x.far (by have:=h.e1; simp; omega) _,h.y.far (by have:=h.e1; simp; omega) _,h.r1.put hj u,h.r2.far (fun e => h.ne e.symm) _,rd17_far h.r h.f h.e1 _,h.f,h.s,h.e1,h.e2,h.f1,h.f2,h.ne⟩
theorem Ad17.sum {w0 w:World} {S:Sv14} {A0 A1 A2 A3 A4:Option Addr} {n0 n1 n2 n3 n4 c0 c1 c2 c3 c4:Nat} {sq:Int} {g1 g2:Nat} {M:Nat→Bool} {Am:Nat→Nat} {A:Option Addr} {l:List Nat} {W:World} (h:Ad17 w0 w S A0 A1 A2 A3 A4 n0 n1 n2 n3 n4 c0 c1 c2 c3 c4 sq g1 g2 M Am A l W) {c:Nat} (hc:c < n0) (z:Nat):Ad17 w0 w S A0 A1 A2 A3 A4 n0 n1 n2 n3 n4 c0 c1 c2 c3 c4 sq g1 g2 M (upd Am c z) A l (W.setCell ⟨g2,c,none⟩ (.int .i64 (z:Int))) :=
 ⟨bk17_trans h.k (bk17_set (p:=⟨g2,c,none⟩) h.f2 (.inr rfl) _),h.b.setCell h.f2 _,h.x.far (by have:=h.e2; simp; omega) _,h.y.far (by have:=h.e2; simp; omega) _,h.r1.far17 h.ne _,h.r2.put hc z,rd17_far h.r h.f h.e2 _,h.f,h.s,h.e1,h.e2,h.f1,h.f2,h.ne⟩
theorem Ad17.row {w0 w:World} {S:Sv14} {A0 A1 A2 A3 A4:Option Addr} {n0 n1 n2 n3 n4 c0 c1 c2 c3 c4:Nat} {sq:Int} {g1 g2:Nat} {M:Nat→Bool} {Am:Nat→Nat} {A B2:Option Addr} {l l2:List Nat} {W:World} (h:Ad17 w0 w S A0 A1 A2 A3 A4 n0 n1 n2 n3 n4 c0 c1 c2 c3 c4 sq g1 g2 M Am A l W) (h1:Rd W W.heap.size B2 l2) (h2:Fa17 w.heap.size B2 l2):Ad17 w0 w S A0 A1 A2 A3 A4 n0 n1 n2 n3 n4 c0 c1 c2 c3 c4 sq g1 g2 M Am B2 l2 W :=
 ⟨h.k,h.b,h.x,h.y,h.r1,h.r2,h1,h2,h.s,h.e1,h.e2,h.f1,h.f2,h.ne⟩
theorem upd17_same {f:Nat→Nat} {c z:Nat} (h:f c = z):upd f c z = f:=funext (fun x => by
 by_cases hx:x = c
 · subst hx; rw [upd_at,h]
 · rw [upd_far _ _ hx])
theorem upd17_twice (f:Nat→Nat) (c y z:Nat):upd (upd f c y) c z = upd f c z:=funext (fun x => by
 by_cases hx:x = c
 · subst hx; rw [upd_at,upd_at]
 · rw [upd_far _ _ hx,upd_far _ _ hx,upd_far _ _ hx])
set_option maxHeartbeats 8000000 in
theorem add17 (w0:World) (S:Sv14) (A0 A1 A2 A3 A4:Option Addr) (n0 n1 n2 n3 n4 c0 c1 c2 c3 c4:Nat) (sq:Int) (g1 g2 c:Nat) (M:Nat→Bool) (Am:Nat→Nat) (w:World) (hs:SA14 w0 S A0 A1 A2 A3 A4 n0 n1 n2 n3 n4 c0 c1 c2 c3 c4 sq) (hf:Fine14 S) (hb:Below w0.heap.size w0 w) (hr1:Bb13 w g1 n1 M) (hr2:Ib13 w g2 n0 Am) (hf1:w0.heap.size≤g1) (hf2:w0.heap.size≤g2) (hne:g1≠g2)
  (hu:us14 usC S.C (c:Int) = true) (hz:Am c = 0) (hpre:∀ j,j∈isd15 S (c:Int)→∀ z,cntb17 S j = ((gt14 S.T j).o && lts17 S S.C.length (upd Am c z) (gt14 S.T j).k (gt14 S.T j).t)) :
  Calls Tryz.prog 103 #[.agg #[.slice (some ⟨g1,0,none⟩) n1 n1,.slice (some ⟨g2,0,none⟩) n0 n0],(.agg #[.slice A0 n0 c0,.slice A1 n1 c1,.slice A2 n2 c2,.slice A3 n3 c3,.slice A4 n4 c4,.int .i64 sq]),.int .i64 (c:Int)] w fun e w' => e = .returned (.tuple #[])∧Bk13 w0.heap.size g1 (some g2) w w'∧Bb13 w' g1 n1 (adt17 S (isd15 S (c:Int)) M (isd15 S (c:Int)).length)∧Ib13 w' g2 n0 (upd Am c (ada17 S (isd15 S (c:Int)) (isd15 S (c:Int)).length)):=by
 have hb1:=b1' w (.cells #[.slice (some ⟨g1,0,none⟩) n1 n1,.slice (some ⟨g2,0,none⟩) n0 n0] 111)
 have hk1:=Blk.new w 111 #[.slice (some ⟨g1,0,none⟩) n1 n1,.slice (some ⟨g2,0,none⟩) n0 n0]
 have hz1:(w.alloc (.cells #[.slice (some ⟨g1,0,none⟩) n1 n1,.slice (some ⟨g2,0,none⟩) n0 n0] 111)).heap.size = w.heap.size + 1:=by simp
 obtain ⟨wa,hwa⟩:∃ W,w.alloc (.cells #[.slice (some ⟨g1,0,none⟩) n1 n1,.slice (some ⟨g2,0,none⟩) n0 n0] 111) = W:=⟨_,rfl⟩
 rw [hwa] at hb1 hk1 hz1
 have hb2:=b1' wa (.cells #[.slice A0 n0 c0,.slice A1 n1 c1,.slice A2 n2 c2,.slice A3 n3 c3,.slice A4 n4 c4,.int .i64 sq] 28)
 have hk2:=Blk.new wa 28 #[.slice A0 n0 c0,.slice A1 n1 c1,.slice A2 n2 c2,.slice A3 n3 c3,.slice A4 n4 c4,.int .i64 sq]
 rw [hz1] at hk2
 obtain ⟨wb,hwb⟩:∃ W,wa.alloc (.cells #[.slice A0 n0 c0,.slice A1 n1 c1,.slice A2 n2 c2,.slice A3 n3 c3,.slice A4 n4 c4,.int .i64 sq] 28) = W:=⟨_,rfl⟩
 rw [hwb] at hb2 hk2
 have hg:=hb1.trans (hb2.mono hb1.size)
 have hk1b:=hk1.below hb2 hk1.lt
 obtain ⟨l,hl⟩:∃ l,isd15 S (c:Int) = l:=⟨_,rfl⟩
 have hll:=isd17_len S (c:Int)
 have HIS:=Lib.hid (issued17 (.agg #[.slice A0 n0 c0,.slice A1 n1 c1,.slice A2 n2 c2,.slice A3 n3 c3,.slice A4 n4 c4,.int .i64 sq]) S (c:Int) wb ⟨A0,A1,A2,A3,A4,n0,n1,n2,n3,n4,c0,c1,c2,c3,c4,sq,rfl,hs.step (hb.trans (hg.mono hb.size))⟩)
 rw [hl] at hpre HIS hll ⊢
 have HPR:=Lib.hid hpre
 have HMB:=Lib.hid (fun j => (isd17_mem hu (j:=j)).1)
 rw [hl] at HMB
 have HF:=Lib.hid hf
 have HL0:=Lib.hid hs.l0
 have HL1:=Lib.hid hs.l1
 have hm1:=hs.m1
 have hc0:c < n0:=by have:=us15_lt hu; have:=hs.l0; omega
 obtain ⟨m,hm⟩:∃ m,l.length = m:=⟨_,rfl⟩
 have HM:=Lib.hid hm
 have hmn:m≤1000:=by have:=hs.l1; omega
 have HADB:=Lib.hid (ada17_bound hf.2.2.2.2.1 l)
 have HA0:Hid (Ad17 w0 w S A0 A1 A2 A3 A4 n0 n1 n2 n3 n4 c0 c1 c2 c3 c4 sq g1 g2 (adt17 S l M 0) (upd Am c (ada17 S l 0)) none [] wb):=Lib.hid
  ⟨bk17_below hb.size hg,hb.trans (hg.mono hb.size),hk2,hk1b,hr1.step hg,by rw [show upd Am c (ada17 S l 0) = Am from upd17_same hz]; exact hr2.below hg hr2.lt,fun h => absurd rfl h,fun h => absurd rfl h,hs,hr1.lt17,hr2.lt,hf1,hf2,hne⟩
 have x0:=hk2.cell 0
 have x1:=hk2.cell 1
 have x2:=hk2.cell 2
 have x3:=hk2.cell 3
 have x4:=hk2.cell 4
 have x5:=hk2.cell 5
 clear hb1 hb2 hk1 hg hk1b hpre hf hs hb hr1 hr2 hf1 hf2 hz hl hm hu hll hne hk2
 go_enter Tryz.func103,Tryz.ntmps103
 go_wp2_with fail
 refine HIS.out.mono ?_
 rintro e w3 ⟨A,ca,rfl,hr3,hfa3,hb3⟩
 rw [HM.out]
 have HW3:=Lib.hid ((HA0.out.step hb3).row hr3 (hfa3.more HA0.out.k.size))
 clear HIS hr3 hfa3 hb3 HA0 x0 x1 x2 x3 x4 x5
 go_wp2_with fail
 go_loopw [13] (fun i wr => ∃ k:Nat,i = .int .i64 (k:Int)∧k≤m∧Hid (Ad17 w0 w S A0 A1 A2 A3 A4 n0 n1 n2 n3 n4 c0 c1 c2 c3 c4 sq g1 g2 (adt17 S l M k) (upd Am c (ada17 S l k)) A l wr)) (fun i _ => m - (intOf i).toNat)
 case atStart => exact ⟨0,rfl,by omega,HW3⟩
 case round =>
  clear HW3
  obtain ⟨k,rfl,hk,HW⟩:=hrel
  by_cases hkm:k < m
  ·
   obtain ⟨ga,oa,hA,hab,q0⟩:=HW.out.r.at_ (show k < l.length by rw [HM.out]; exact hkm)
   obtain ⟨j,hj⟩:∃ x,nth l k = x:=⟨_,rfl⟩
   rw [hj] at q0
   have hjl:j∈l:=by rw [← hj,nth_in (by rw [HM.out]; exact hkm)]; exact List.getElem_mem _
   have hjn:=(HMB.out j hjl).1
   obtain ⟨gt,ot,hAt,hbt,hq⟩:=Lq.at_ len14T (by omega) HW.out.sa.r1 hjn
   have t1:wr.cell? ⟨w.heap.size + 1,1,none⟩ = some (.slice (some ⟨gt,ot,none⟩) n1 c1):=by rw [← hAt]; exact HW.out.x.cell 1
   obtain ⟨x,hx⟩:∃ x,gt14 S.T j = x:=⟨_,rfl⟩
   have hpr:=HPR.out j hjl (ada17 S l k)
   rw [hx] at hq hpr
   obtain ⟨xu,xc,xa,xk,xt,xo⟩:=x
   have e0:wr.cell? ⟨gt,ot + j * 6,none⟩ = some (.bool xu):=hq 0 _ rfl
   have e1:wr.cell? ⟨gt,ot + j * 6 + 1,none⟩ = some (.int .i64 xc):=hq 1 _ rfl
   have e2:wr.cell? ⟨gt,ot + j * 6 + 2,none⟩ = some (.int .i64 xa):=hq 2 _ rfl
   have e3:wr.cell? ⟨gt,ot + j * 6 + 3,none⟩ = some (.int .i64 xk):=hq 3 _ rfl
   have e4:wr.cell? ⟨gt,ot + j * 6 + 4,none⟩ = some (.int .i64 xt):=hq 4 _ rfl
   have e5:wr.cell? ⟨gt,ot + j * 6 + 5,none⟩ = some (.bool xo):=hq 5 _ rfl
   have i0:(0:Int)≤(k:Int):=by omega
   have i1:(k:Int) < (m:Int):=by omega
   have j0:(0:Int)≤(j:Int):=by omega
   have hj1:j < n1:=by have:=HL1.out; omega
   have j1:(j:Int) < (n1:Int):=by omega
   have s0:(0:Int)≤(c:Int):=by omega
   have s1:(c:Int) < (n0:Int):=by omega
   have HNT:Hid (adt17 S l M (k + 1) = if cntb17 S j = true then upd (adt17 S l M k) j true else adt17 S l M k):=Lib.hid (by rw [adt17,hj])
   have HNA:Hid (ada17 S l (k + 1) = ada17 S l k + if cntb17 S j = true then xa.toNat else 0):=Lib.hid (by rw [ada17,hj,hx])
   have HV:=Lib.hid (HW.out.step (b1' wr (.cells #[.bool xu,.int .i64 xc,.int .i64 xa,.int .i64 xk,.int .i64 xt,.bool xo] 53)))
   have hv:=Blk.new wr 53 #[.bool xu,.int .i64 xc,.int .i64 xa,.int .i64 xk,.int .i64 xt,.bool xo]
   have hvl:w.heap.size + 1 < wr.heap.size:=HW.out.x.lt
   obtain ⟨gv,hgv⟩:∃ g,wr.heap.size = g:=⟨_,rfl⟩
   obtain ⟨X,hX⟩:∃ X,wr.alloc (.cells #[.bool xu,.int .i64 xc,.int .i64 xa,.int .i64 xk,.int .i64 xt,.bool xo] 53) = X:=⟨_,rfl⟩
   rw [hgv] at hv hvl
   rw [hX] at HV hv
   have v0:=hv.cell 0
   have v1:=hv.cell 1
   have v2:=hv.cell 2
   have v3:=hv.cell 3
   have v4:=hv.cell 4
   have v5:=hv.cell 5
   have HVB:=Lib.hid hv
   have HXJ:=Lib.hid hx
   have HXA:Hid (cntb17 S j = true→1≤xa∧xa≤1048576):=Lib.hid (fun h => by
    have h1:=(cntb17_yes.1 h).lt
    have h2:=HF.out.2.2.2.2.1 j h1.1 h1.2
    rw [hx] at h2
    exact ⟨h2.2.1,h2.2.2.1⟩)
   clear hv hq hx hab hbt hjl hj hAt
   subst hA
   go_upto_region 5 with (fail)
   clear t1 e0 e1 e2 e3 e4 e5 q0 hX
   cases xo with
   | false =>
    have hcf:cntb17 S j = false:=by rw [hpr]; rfl
    have HN:Hid (Ad17 w0 w S A0 A1 A2 A3 A4 n0 n1 n2 n3 n4 c0 c1 c2 c3 c4 sq g1 g2 (adt17 S l M (k + 1)) (upd Am c (ada17 S l (k + 1))) (some ⟨ga,oa,none⟩) l X):=Lib.hid (HV.out.congr (by rw [HNT.out,hcf]; rfl) (by rw [HNA.out,hcf]; rfl))
    clear hpr hcf HV HNT HNA HXA
    go_wp2_with fail
    go_roundw
    case rel => exact ⟨k + 1,by go_num,by omega,HN⟩
    case measure => simp [intOf]; omega
   | true =>
    rw [Bool.true_and,show S.C.length = n0 from HL0.out] at hpr
    have HLT:=Lib.hid (lets17 S A0 A1 A2 A3 A4 n0 n1 n2 n3 n4 c0 c1 c2 c3 c4 sq (some ⟨g1,0,none⟩) n1 n1 g2 n0 n0 (upd Am c (ada17 S l k)) xu xc xa xk xt true X HV.out.sa HF.out HV.out.r2)
    have y0:=HV.out.y.cell 0
    have y1:=HV.out.y.cell 1
    have x0:=HV.out.x.cell 0
    have x1:=HV.out.x.cell 1
    have x2:=HV.out.x.cell 2
    have x3:=HV.out.x.cell 3
    have x4:=HV.out.x.cell 4
    have x5:=HV.out.x.cell 5
    rw [← show cntb17 S j = lts17 S n0 (upd Am c (ada17 S l k)) xk xt from hpr] at HLT
    obtain ⟨b,hb⟩:∃ b,cntb17 S j = b:=⟨_,rfl⟩
    rw [hb] at HLT HNT HNA HXA
    clear hpr hb
    cases b with
    | false =>
     go_wp2_with fail
     refine HLT.out.mono ?_
     rintro e w4 ⟨rfl,hb4⟩
     have HN:Hid (Ad17 w0 w S A0 A1 A2 A3 A4 n0 n1 n2 n3 n4 c0 c1 c2 c3 c4 sq g1 g2 (adt17 S l M (k + 1)) (upd Am c (ada17 S l (k + 1))) (some ⟨ga,oa,none⟩) l w4):=Lib.hid ((HV.out.step hb4).congr (by rw [HNT.out]; rfl) (by rw [HNA.out]; rfl))
     clear HLT hb4 HV HNT HNA HXA
     go_wp2_with fail
     go_roundw
     case rel => exact ⟨k + 1,by go_num,by omega,HN⟩
     case measure => simp [intOf]; omega
    | true =>
     go_wp2_with fail
     refine HLT.out.mono ?_
     rintro e w4 ⟨rfl,hb4⟩
     have hx1:=HXA.out (by first | rfl | trivial)
     have hsb:=HADB.out k
     obtain ⟨z,hz⟩:∃ z,ada17 S l k = z:=⟨_,rfl⟩
     have h4:=HV.out.step hb4
     have f1:=(h4.r1.cells hj1).2
     have p1:=(h4.r1.cells hj1).1
     have h5:=h4.mark hj1 true
     have hv5:=(HVB.out.below hb4 HVB.out.lt).far (p:=⟨g1,j,none⟩) (by have:=h4.e1; simp; omega) (.bool true)
     have y05:=h4.y.cell 0
     obtain ⟨w5,hw5⟩:∃ W,w4.setCell ⟨g1,j,none⟩ (.bool true) = W:=⟨_,rfl⟩
     rw [hw5] at h5 hv5
     rw [hz] at h5 hsb
     have y15:=h5.y.cell 1
     have p2:=(h5.r2.cells hc0).1
     have f2:=(h5.r2.cells hc0).2
     rw [upd_at] at p2
     have v52:=hv5.cell 2
     obtain ⟨z2,hz2⟩:∃ z2:Nat,(z:Int) + xa = (z2:Int):=⟨((z:Int) + xa).toNat,by omega⟩
     have HZ2:Hid (ada17 S l (k + 1) = z2):=Lib.hid (by rw [HNA.out,hz,if_pos (by first | rfl | trivial)]; omega)
     have hwr:IntKind.i64.wrap ((z2:Nat):Int) = (z2:Int):=by rw [IntKind.wrap_i64]; omega
     have h6:=h5.sum hc0 z2
     rw [upd17_twice] at h6
     have HN:Hid (Ad17 w0 w S A0 A1 A2 A3 A4 n0 n1 n2 n3 n4 c0 c1 c2 c3 c4 sq g1 g2 (adt17 S l M (k + 1)) (upd Am c (ada17 S l (k + 1))) (some ⟨ga,oa,none⟩) l (w5.setCell ⟨g2,c,none⟩ (.int .i64 (z2:Int)))):=Lib.hid (h6.congr (by rw [HNT.out]; rfl) (by rw [HZ2.out]))
     clear HLT hb4 HV HNT HNA HXA h4 h5 h6 hv5 hz HZ2 hx1 hsb HVB
     go_wp2_with fail
     go_region
     go_wp2_with fail
     go_roundw
     case rel => exact ⟨k + 1,by go_num,by omega,Lib.hid (HN.out.step (Below.refl _ _).drew)⟩
     case measure => simp [intOf]; omega
  ·
   obtain rfl:k = m:=by omega
   have i1:¬ (k:Int) < (k:Int):=by omega
   go_wp2_with fail
   go_end0
   rw [HM.out]
   exact ⟨rfl,HW.out.k,HW.out.r1,HW.out.r2⟩
end Go.Proofs.YtgopgbfgbddggaaGreat
