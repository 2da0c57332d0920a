import Derived.Test.YtkdmnlihpebbkaaGreatCT22
set_option linter.all false
set_option maxHeartbeats 4000000
namespace Go.Proofs.YtkdmnlihpebbkaaGreat
section
open Go.RowKit
set_option maxRecDepth 100000
theorem Chn16.nodup {S:Sv14} (hf:Fine14 S) {i:Nat} {l:List Nat} (h:Chn16 S i l) (hi:i < S.H.length):l.Nodup:=by
 have hr:¬ Rng13 (Ta16 S):=free15_ring.1 hf.2.2.2.2.2.2.2.2.2
 induction h with
 | one _ => simp
 | @step i j l h1 h2 ih =>
  have ha:(i,j)∈Ta16 S:=(ta16_mem hf).2 ⟨hi,h1⟩;have hj:=(in16_ta S _ ha).2;refine List.nodup_cons.2 ⟨fun hm => ?_,ih hj⟩;rcases (h2.way hf hj i).1 hm with h5 | h5
  ·
   subst h5;exact hr ⟨i,.one ha⟩
  · exact hr ⟨i,(Way.one ha).trans h5⟩
open Classical in
noncomputable def tlc19 (S:Sv14) (x:Nat):List Nat:=if h:∃ l,Tl16 S (x:Int) l then h.choose else []
theorem tlc19_is {S:Sv14} (hf:Fine14 S) (x:Nat):Tl16 S (x:Int) (tlc19 S x):=by
 have h:=tl16_ex hf (x:Int);unfold tlc19;rw [dif_pos h];exact h.choose_spec
theorem tlc19_nodup {S:Sv14} (hf:Fine14 S) (x:Nat):(tlc19 S x).Nodup:=by
 have h:=tlc19_is hf x;rcases h with h | ⟨h0,k,h1,h2⟩
 · rw [h.2]; exact List.nodup_nil
 ·
  have:=ush16_lt h0;exact h2.nodup hf (by omega)
theorem tlc19_lt {S:Sv14} (hf:Fine14 S) {x y:Nat} (h:y∈tlc19 S x):y < S.H.length:=by
 have:=ush16_lt ((tlc19_is hf x).used hf h);omega
noncomputable def hd19 (S:Sv14) (i k:Nat):List Nat:=all11 (fun x => decide (k∈tlc19 S x)) i
noncomputable def hl19 (S:Sv14) (i t k:Nat):List Nat:=hd19 S i k ++ if k∈(tlc19 S i).take t then [i] else []
theorem hd19_zero (S:Sv14) (k:Nat):hd19 S 0 k = []:=rfl
theorem hl19_zero (S:Sv14) (i k:Nat):hl19 S i 0 k = hd19 S i k:=by simp [hl19]
theorem hl19_end (S:Sv14) (i k:Nat):hl19 S i (tlc19 S i).length k = hd19 S (i + 1) k:=by
 unfold hl19 hd19;rw [all11_next,List.take_length];by_cases h:k∈tlc19 S i <;> simp [h]
theorem hl19_next {S:Sv14} (hf:Fine14 S) {i t:Nat} (ht:t < (tlc19 S i).length) (k:Nat):upd (hl19 S i t) (nth (tlc19 S i) t) (hl19 S i t (nth (tlc19 S i) t) ++ [i]) k = hl19 S i (t + 1) k:=by
 have hn:=tlc19_nodup hf i;obtain ⟨l,hl⟩:=exq (tlc19 S i);unfold hl19;rw [hl] at ht hn ⊢
 have hnot:nth l t ∉ l.take t:=by
  rw [nth_in ht];intro h;obtain ⟨j,hj,e⟩:=List.mem_iff_getElem.1 h;rw [List.length_take] at hj;rw [List.getElem_take] at e;have:=(List.getElem_inj hn).1 e;omega
 rw [take15_next ht];by_cases e:k = nth l t
 ·
  subst e;rw [upd_at,if_neg hnot,if_pos (by simp),List.append_nil]
 ·
  rw [upd_far _ _ e];by_cases hm:k∈l.take t
  · rw [if_pos hm,if_pos (by simp [hm])]
  · rw [if_neg hm,if_neg (by simp [hm,e])]
theorem hd19_len (S:Sv14) (i k:Nat):(hd19 S i k).length<=i:=all11_len _ _
theorem hl19_len (S:Sv14) (i t k:Nat):(hl19 S i t k).length<=i + 1:=by
 have:=hd19_len S i k;unfold hl19;split <;> simp <;> omega
theorem hd19_lt {S:Sv14} {i k x:Nat} (h:x∈hd19 S i k):x < i:=by
 unfold hd19 all11 at h;rw [List.mem_filter,List.mem_range] at h;exact h.1
theorem hd19_sum {S:Sv14} (hf:Fine14 S) {wT:Nat->Rat} (k:Nat):tsum18 (th18 S wT) (hd19 S S.H.length k) (hd19 S S.H.length k).length = car19 S (th18 S wT) k:=by
 unfold hd19;rw [tsum18_all,car19];refine sumR_congr (fun x hx => ?_)
 cases hu:us14 usH S.H (x:Int) with
 | false =>
  rw [th18_unused hf hu]
  split <;> split <;> rfl
 | true =>
  have h1:=((tlc19_is hf x).chn hu).way hf hx k;by_cases h:k∈tlc19 S x
  · rw [if_pos (by simpa using h),if_pos (inc19_yes.2 ((h1.1 h).imp Eq.symm id))]
  · rw [if_neg (by simpa using h),if_neg (fun g => h (h1.2 ((inc19_yes.1 g).imp Eq.symm id)))]
def cq19 (W:World) (g x:Nat):List Value:=[(W.cell? ⟨g,x * 2,none⟩).getD (.bool false),(W.cell? ⟨g,x * 2 + 1,none⟩).getD (.bool false)]
theorem cq19_len (W:World) (g x:Nat):(cq19 W g x).length = 2:=rfl
theorem cq19_at {W:World} {g n:Nat} {q:Nat->Nat × Nat} (h:Qr18 W g n q) {x:Nat} (hx:x < n):∃ A1 n1 c1 A2 n2 c2,cq19 W g x = [.slice A1 n1 c1,.slice A2 n2 c2]/\W.cell? ⟨g,x * 2,none⟩ = some (.slice A1 n1 c1)/\W.cell? ⟨g,x * 2 + 1,none⟩ = some (.slice A2 n2 c2)/\Nv W 0 (.slice A1 n1 c1) (q x).1/\Nv W 0 (.slice A2 n2 c2) (q x).2:=by
 obtain ⟨A1,n1,c1,A2,n2,c2,e1,e2,e3,e4,_⟩:=h.cells hx;exact ⟨A1,n1,c1,A2,n2,c2,by unfold cq19; rw [e1,e2]; rfl,e1,e2,e3,e4⟩
theorem info_ratio19:(Tryz.prog.info? 46).map (fun i => (i.zero,i.size,i.bytes)) = some (some (.agg #[.slice none 0 0,.slice none 0 0]),2,48):=by kernel_rfl
theorem row19 {W:World} {H0 n s:Nat} {F:Option Addr} {vs:List Value} (h:W.ownsRow H0 46 2 (.slice F n s) n vs) (hL:H0<=W.heap.size) (hm:n<=5000) (A1 A2:Option Addr) (n1 c1 n2 c2:Nat) :
  ∃ A' c' W3,(Builtin.append_ #[40,40] 40 #[.slice F n s,.slice (some ⟨W.heap.size,0,none⟩) 1 1]).run Tryz.prog (W.alloc (.cells #[.slice A1 n1 c1,.slice A2 n2 c2] 46)) = .ok (.slice A' (n + 1) c') W3 /\
   W3.ownsRow H0 46 2 (.slice A' (n + 1) c') (n + 1) (vs ++ [.slice A1 n1 c1,.slice A2 n2 c2])/\(W.alloc (.cells #[.slice A1 n1 c1,.slice A2 n2 c2] 46)).grownBy W3 (ob F)/\Below H0 W W3/\∀ r,ob A' = some r->ob F = some r\/W.heap.size < r:=by
 have hba:=b1' W (.cells #[.slice A1 n1 c1,.slice A2 n2 c2] 46);have hk2:=Blk.new W 46 #[.slice A1 n1 c1,.slice A2 n2 c2];have b1:=own_keep2 h hba;have hsy:(W.alloc (.cells #[.slice A1 n1 c1,.slice A2 n2 c2] 46)).heap.size = W.heap.size + 1:=by simp
 obtain ⟨Y,hY⟩:=exq (W.alloc (.cells #[.slice A1 n1 c1,.slice A2 n2 c2] 46));rw [hY] at hba hk2 b1 hsy ⊢;obtain ⟨i,hi,hzz⟩:=Option.map_eq_some_iff.1 info_ratio19;simp only [Prod.mk.injEq] at hzz;obtain ⟨hz,hs,hby⟩:=hzz;have hle:H0<=Y.heap.size:=by omega
 obtain ⟨v',W3,hrun,hown,hg,_,hat⟩:=run_append_own_at (P:=Tryz.prog) Y H0 40 40 46 i _ 2 48 Tryz.underlying40 hi hz hs hby rfl (by omega) _ n _ b1 ⟨W.heap.size,0,none⟩ 1 1 [.slice A1 n1 c1,.slice A2 n2 c2] rfl (fun j u hj => by
  match j,hj with
  | 0,hj =>
   obtain rfl:_ = u:=by simpa using hj
   exact hk2.cell 0
  | 1,hj =>
   obtain rfl:_ = u:=by simpa using hj
   exact hk2.cell 1
  | j + 2,hj => simp at hj) (by simp [Value.oneCell']) (by unfold maxLen; omega) (by omega) hle
 have hv':∃ A' c',v' = .slice A' (n + 1) c':=by
  rcases hown.2 with ⟨_,h0⟩ | ⟨g,cap,cur,hv,_⟩
  · omega
  · exact ⟨_,_,hv⟩
 obtain ⟨A',c',rfl⟩:=hv';have hB3:Below H0 W W3:=(hba.mono hL).grown hg hle (fun r hr => (b1.lt r hr).1);rw [ob_eq] at hg hat;rw [ob_eq] at hat;refine ⟨A',c',W3,hrun,hown,hg,hB3,fun r hr => ?_⟩;rcases hat with h5 | h5
 · exact .inl (by rw [<- h5]; exact hr)
 ·
  right;rw [h5] at hr;injection hr with hr
  omega
theorem rats19 {w0 W:World} {H0 g n m c:Nat} {A:Option Addr} {l:List Nat} {q:Nat->Nat × Nat} {y:Nat->Rat} (h:W.ownsRow H0 46 2 (.slice A m c) m (fl14 (cq19 w0 g) l)) (hm:l.length = m) (hq:Qr18 w0 g n q) (hl:∀ t,t∈l->t < n)
  (hqy:∀ k,k < n->q k = qr18 (y k)) (hsm:∀ k,k < n->Sm18 (qr18 (y k))) (hnv:∀ {L a:Nat} {v:Value},Nv w0 L v a->Nv W L v a):Rats W W.heap.size A ((List.range m).map (fun t => qr18 (y (nth l t)))) 18:=fun t p hp => by
 have htn:t < m:=by
  have:=(List.getElem?_eq_some_iff.1 hp).1;simpa using this
 have htl:t < l.length:=by omega
 rw [List.getElem?_map,List.getElem?_range htn] at hp;injection hp with hp
 have hmem:nth l t < n:=hl _ (by rw [nth_in htl]; exact List.getElem_mem _);obtain ⟨A1,n1,c1,A2,n2,c2,e0,e1,e2,e3,e4⟩:=cq19_at hq hmem;have hlq:=Lq.of_own (by omega) h
 have hne:fl14 (cq19 w0 g) l≠[]:=fun e => by
  have:=fl14_len (cq19_len w0 g) l;rw [e] at this;simp at this;omega
 obtain ⟨bb,o,f1,f2,f3⟩:=hlq hne;have g0:=fl14_get (cq19_len w0 g) (j:=t) (i:=0) htl (by omega);have g1:=fl14_get (cq19_len w0 g) (j:=t) (i:=1) htl (by omega);rw [show gt14 l t = nth l t from rfl,e0] at g0 g1;rw [hqy _ hmem] at e3 e4;subst hp
 exact ⟨bb,o,A1,n1,c1,A2,n2,c2,f1,f2,by simpa using f3 _ _ g0,by simpa [Nat.add_assoc] using f3 _ _ g1,(hnv e3).nr (hsm _ hmem).1,(hnv e4).nr (hsm _ hmem).2⟩
structure Hd19 (W:World) (H0 E n:Nat) (cl:Nat->List Value) (ls:Nat->List Nat) (Af:Nat->Option Addr) (cf:Nat->Nat):Prop where
 ends:∃ es:Array Value,Blk W E 40 es/\es.size = n/\∀ k,k < n->es[k]? = some (.slice (Af k) (ls k).length (cf k))
 rows:∀ k,k < n->W.ownsRow H0 46 2 (.slice (Af k) (ls k).length (cf k)) (ls k).length (fl14 cl (ls k))
 apart:∀ j k,j < n->k < n->j≠k->∀ r,ob (Af j) = some r->ob (Af k)≠some r
 le:E < H0
section
variable {W:World} {H0 E n:Nat} {cl:Nat->List Value} {ls:Nat->List Nat} {Af:Nat->Option Addr} {cf:Nat->Nat}
theorem Hd19.start (h:Eq13 W E 40 n (.slice none 0 0)) (he:E < H0):Hd19 W H0 E n cl (fun _ => []) (fun _ => none) (fun _ => 0) :=
 ⟨h,fun k _ => World.ownsRow_nil _ _ _ _,(by intro j k _ _ _ r hr; cases hr),he⟩
theorem Hd19.step {W':World} (b:Hd19 W H0 E n cl ls Af cf) (hb:Below W.heap.size W W'):Hd19 W' H0 E n cl ls Af cf:=by
 obtain ⟨es,h1,h2,h3⟩:=b.ends;exact ⟨⟨es,h1.below hb h1.lt,h2,h3⟩,fun k hk => own_keep2 (b.rows k hk) hb,b.apart,b.le⟩
theorem Hd19.congr {ls':Nat->List Nat} (b:Hd19 W H0 E n cl ls Af cf) (e:∀ k,ls k = ls' k):Hd19 W H0 E n cl ls' Af cf:=(funext e:ls = ls') ▸ b
theorem Hd19.cell (b:Hd19 W H0 E n cl ls Af cf) {k:Nat} (hk:k < n):W.cell? ⟨E,k,none⟩ = some (.slice (Af k) (ls k).length (cf k))/\W.frozen? ⟨E,k,none⟩ = false:=by
 obtain ⟨es,h1,h2,h3⟩:=b.ends;exact ⟨by rw [h1.cell]; exact h3 k hk,h1.frozen k⟩
theorem Hd19.push (b:Hd19 W H0 E n cl ls Af cf) {f x:Nat} (hf:f < n) (hL:H0<=W.heap.size) {A1 A2:Option Addr} {n1 c1 n2 c2:Nat} (hc:cl x = [.slice A1 n1 c1,.slice A2 n2 c2]) (hm:(ls f).length<=5000) :
  ∃ A' c' W3,(Builtin.append_ #[40,40] 40 #[.slice (Af f) (ls f).length (cf f),.slice (some ⟨W.heap.size,0,none⟩) 1 1]).run Tryz.prog (W.alloc (.cells #[.slice A1 n1 c1,.slice A2 n2 c2] 46)) = .ok (.slice A' ((ls f).length + 1) c') W3 /\
   W3.cell? ⟨E,f,none⟩ = some (.slice (Af f) (ls f).length (cf f))/\W3.frozen? ⟨E,f,none⟩ = false/\Below H0 W W3 /\
   (W.alloc (.cells #[.slice A1 n1 c1,.slice A2 n2 c2] 46)).grownBy W3 (ob (Af f))/\(∀ r,ob (Af f) = some r->∃ cur,Blk W r 46 cur)/\(∀ r,ob A' = some r->ob (Af f) = some r\/W.heap.size < r) /\
   Hd19 (W3.setCell ⟨E,f,none⟩ (.slice A' ((ls f).length + 1) c')) H0 E n cl (upd ls f (ls f ++ [x])) (upd Af f A') (upd cf f c'):=by
 have hba:=b1' W (.cells #[.slice A1 n1 c1,.slice A2 n2 c2] 46);have b1:=b.step hba;obtain ⟨A',c',W3,hrun,hown,hg,hB3,hnew⟩:=row19 (b.rows f hf) hL hm A1 A2 n1 c1 n2 c2;obtain ⟨Y,hY⟩:=exq (W.alloc (.cells #[.slice A1 n1 c1,.slice A2 n2 c2] 46));rw [hY] at hba b1 hg hrun ⊢;obtain ⟨es,h1,h2,h3⟩:=b1.ends
 have hE:Blk W3 E 40 es:=h1.grown hg (fun e => by have:=((b1.rows f hf).lt E (by rw [ob_eq]; exact e.symm)).1; have:=b.le; omega)
 have hobE:ob A'≠some E:=fun e => by
  have:=(hown.lt E (by rw [ob_eq]; exact e)).1;have:=b.le;omega
 have hrowE:∀ k,k < n->ob (Af k)≠some E:=fun k hk e => by
  have:=((b1.rows k hk).lt E (by rw [ob_eq]; exact e)).1;have:=b.le;omega
 have hbk:∀ r,ob (Af f) = some r->∃ cur,Blk W r 46 cur:=fun r hr => by
  rcases (b.rows f hf).2 with ⟨h,_⟩ | ⟨g,cap,cur,h,_,h6,_⟩
  ·
   injection h with h
   rw [h] at hr;cases hr
  ·
   injection h with h
   rw [h] at hr;injection hr with hr
   subst hr;exact ⟨cur,h6⟩
 refine ⟨A',c',W3,hrun,by rw [hE.cell]; exact h3 f hf,hE.frozen f,hB3,hg,hbk,hnew,⟨⟨_,hE.set_ f _,by simpa using h2,fun k hk => ?_⟩,fun k hk => ?_,fun j k hj hk hjk r hr => ?_,b.le⟩⟩
 ·
  by_cases hkf:k = f
  ·
   subst hkf;rw [upd_at,upd_at,upd_at,List.length_append,List.length_singleton,Array.getElem?_setIfInBounds_self_of_lt (by omega)]
  · rw [upd_far _ _ hkf,upd_far _ _ hkf,upd_far _ _ hkf,Array.getElem?_setIfInBounds_ne (by omega),h3 k hk]
 ·
  by_cases hkf:k = f
  ·
   subst hkf;rw [upd_at,upd_at,upd_at,List.length_append,List.length_singleton,fl14_append];rw [show fl14 cl [x] = [.slice A1 n1 c1,.slice A2 n2 c2] by simp [fl14,hc]];exact ownsRow_setCell_other hown (by rw [ob_eq]; exact hobE) _
  ·
   rw [upd_far _ _ hkf,upd_far _ _ hkf,upd_far _ _ hkf];refine ownsRow_setCell_other ((b1.rows k hk).kept hg ?_) (by rw [ob_eq]; exact hrowE k hk) _;rw [ob_eq]
   cases hk2:ob (Af k) with
   | none => exact .inl rfl
   | some r => exact .inr (fun e => b.apart k f hk hf hkf r hk2 e.symm)
 ·
  by_cases hjf:j = f
  ·
   subst hjf;rw [upd_at] at hr;rw [upd_far _ _ (fun e => hjk e.symm)];rcases hnew r hr with h5 | h5
   · exact b.apart j k hj hk hjk r h5
   ·
    intro h6;have:=((b.rows k hk).lt r (by rw [ob_eq]; exact h6)).2;omega
  ·
   rw [upd_far _ _ hjf] at hr;by_cases hkf:k = f
   ·
    subst hkf;rw [upd_at];intro h6;rcases hnew r h6 with h5 | h5
    · exact b.apart j k hj hk hjk r hr h5
    ·
     have:=((b.rows j hj).lt r (by rw [ob_eq]; exact hr)).2;omega
   ·
    rw [upd_far _ _ hkf];exact b.apart j k hj hk hjk r hr
end
theorem but19 {w0 W W':World} {E:Nat} (h:w0.grownBy W (some E)) (hb:Below w0.heap.size W W'):w0.grownBy W' (some E) :=
 ⟨hb.os.trans h.os,hb.tape.trans h.tape,hb.output.trans h.output,Nat.le_trans h.size hb.size,fun k hk hne => (hb.block k hk).trans (h.block k hk hne)⟩
theorem but19_set {w0 W:World} {E j:Nat} (h:w0.grownBy W (some E)) (u:Value):w0.grownBy (W.setCell ⟨E,j,none⟩ u) (some E) :=
 ⟨h.os,h.tape,h.output,by rw [setCell_size]; exact h.size,fun k hk hne => (Below.heap_setCell _ _ _ _ (by intro e; exact hne (by rw [e]))).trans (h.block k hk hne)⟩
theorem Nv.but19 {w0 W:World} {E L a:Nat} {t:TypeId} {es:Array Value} {v:Value} (hv:Nv w0 L v a) (h:w0.grownBy W (some E)) (hE:Blk w0 E t es) (hs:∀ (k:Nat) (u:Value),es[k]? = some u->∃ A n c,u = Value.slice A n c):Nv W L v a:=by
 obtain ⟨A,xs,n,c,h1,h2,h3,h4,h5⟩:=hv;refine ⟨A,xs,n,c,h1,h2,h3,fun hx => ?_,h5⟩;obtain ⟨b,o,e1,e2,e3⟩:=h4 hx;refine ⟨b,o,e1,Nat.lt_of_lt_of_le e2 h.size,fun k hk => h.cell (e3 k hk) (fun e => ?_)⟩;have h6:=e3 k hk;injection e with e
 rw [show (⟨b,o + k,none⟩:Addr) = ⟨E,o + k,none⟩ by rw [<- e],hE.cell] at h6;obtain ⟨_,_,_,h7⟩:=hs _ _ h6;cases h7
def Hs19 (W:World) (lo E n:Nat) (x:Nat->Rat):Prop:=∀ k,k < n->∃ A L m c,W.cell? ⟨E,k,none⟩ = some (.slice A m c)/\L.length = m/\Rats W W.heap.size A L 18/\m<=100/\L.foldl addQ (0,1) = qr18 (x k)/\∀ p,A = some p->lo<=p.block
theorem Rats.step19 {w w':World} {A:Option Addr} {L:List (Nat × Nat)} {M:Nat} (h:Rats w w.heap.size A L M) (hb:Below w.heap.size w w'):Rats w' w'.heap.size A L M:=fun k q hk => by
 obtain ⟨b,o,A1,n1,c1,A2,n2,c2,h1,h2,h3⟩:=h.below hb k q hk;exact ⟨b,o,A1,n1,c1,A2,n2,c2,h1,Nat.lt_of_lt_of_le h2 hb.size,h3⟩
theorem Hs19.step {W W':World} {lo E n:Nat} {x:Nat->Rat} (h:Hs19 W lo E n x) (hb:Below W.heap.size W W'):Hs19 W' lo E n x:=fun k hk => by
 obtain ⟨A,L,m,c,h1,h2,h3,h4⟩:=h k hk;exact ⟨A,L,m,c,(hb.cell (p:=⟨E,k,none⟩) (World.block_lt_of_cell? _ _ h1)).trans h1,h2,h3.step19 hb,h4⟩
theorem Hd19.sums {w0 W:World} {E g n:Nat} {q:Nat->Nat × Nat} {ls:Nat->List Nat} {Af:Nat->Option Addr} {cf:Nat->Nat} {x y:Nat->Rat} (b:Hd19 W w0.heap.size E n (cq19 w0 g) ls Af cf) (hz:w0.grownBy W (some E)) (hq:Qr18 w0 g n q)
  (hE:Eq13 w0 E 40 n (.slice none 0 0)) (hqy:∀ k,k < n->q k = qr18 (y k)) (hy:∀ k,0<=y k) (hsm:∀ k,Sm18 (qr18 (y k))) (hls:∀ k,k < n->(ls k).length<=100/\∀ t,t∈ls k->t < n) (hx:∀ k,k < n->tsum18 y (ls k) (ls k).length = x k):Hs19 W w0.heap.size E n x:=fun k hk => by
 obtain ⟨es,hE1,hE2,hE3⟩:=hE
 have hsl:∀ (j:Nat) (u:Value),es[j]? = some u->∃ A n c,u = Value.slice A n c:=fun j u hj => by
  have h1:=(Array.getElem?_eq_some_iff.1 hj).1;rw [hE3 j (by omega)] at hj;injection hj with hj
  exact ⟨_,_,_,hj.symm⟩
 refine ⟨Af k,(List.range (ls k).length).map (fun t => qr18 (y (nth (ls k) t))),(ls k).length,cf k,(b.cell hk).1,by simp,rats19 (b.rows k hk) rfl hq (hls k hk).2 hqy (fun j _ => hsm j) (fun hv => hv.but19 hz hE1 hsl),(hls k hk).1,by rw [fold18_range _ _ hy,hx k hk],fun p hp => ?_⟩;exact ((b.rows k hk).lt p.block (by rw [ob_eq,hp]; rfl)).1
theorem Nr.setS19 {w:World} {g i n c x M:Nat} {A:Option Addr} {v u:Value} (h:Nr w v x M) (hg:w.cell? ⟨g,i,none⟩ = some (.slice A n c)):Nr (w.setCell ⟨g,i,none⟩ u) v x M:=by
 obtain ⟨A',xs,n',c',h1,hl,h2,h3,h4⟩:=h;refine ⟨A',xs,n',c',h1,hl,h2,?_,h4⟩;rw [setCell_size];intro hx;obtain ⟨b,o,e1,e2,e3⟩:=h3 hx;refine ⟨b,o,e1,e2,fun k hk => ?_⟩;rw [World.cell?_setCell_other w _ _ u (fun e => by have:=e3 k hk; rw [<- e,hg] at this; cases this)];exact e3 k hk
theorem Hs19.put {W:World} {lo E n g m k:Nat} {x:Nat->Rat} {q:Nat->Nat × Nat} (h:Hs19 W lo E n x) (hq:Qr18 W g m q) (hk:k < m) (hg:g < lo) (he:E≠g) (u v:Value):Hs19 (putq18 W g k u v) lo E n x:=fun j hj => by
 obtain ⟨A,L,mm,c,h1,h2,h3,h4,h5,h6⟩:=h j hj;obtain ⟨B1,m1,d1,B2,m2,d2,y1,y2,_⟩:=hq.cells hk;have y2':(W.setCell ⟨g,k * 2,none⟩ u).cell? ⟨g,k * 2 + 1,none⟩ = some (.slice B2 m2 d2):=(World.cell?_setCell_other _ _ _ _ (by intro e; injection e; omega)).trans y2
 have hc:∀ (b o:Nat) (z:Value),b≠g->W.cell? ⟨b,o,none⟩ = some z->(putq18 W g k u v).cell? ⟨b,o,none⟩ = some z:=fun b o z hb hz => by
  unfold putq18;rw [World.cell?_setCell_other _ _ _ _ (by intro e; injection e with e; exact hb e.symm),World.cell?_setCell_other _ _ _ _ (by intro e; injection e with e; exact hb e.symm)];exact hz
 refine ⟨A,L,mm,c,hc _ _ _ he h1,h2,fun t p hp => ?_,h4,h5,h6⟩;obtain ⟨b,o,A1,n1,c1,A2,n2,c2,e1,e2,e3,e4,e5,e6⟩:=h3 t p hp;have hb:b≠g:=by have:=h6 _ e1; dsimp only at this; omega
 exact ⟨b,o,A1,n1,c1,A2,n2,c2,e1,by rw [size_putq18]; exact e2,hc _ _ _ hb e3,hc _ _ _ hb e4,(e5.setS19 y1).setS19 y2',(e6.setS19 y1).setS19 y2'⟩
theorem car19_unused {S:Sv14} (hf:Fine14 S) {wT:Nat->Rat} {k:Nat} (hu:us14 usH S.H (k:Int) = false):car19 S (th18 S wT) k = 0:=sumR_all (fun x _ => by
 split
 ·
  next h =>
  rcases inc19_yes.1 h with h | h
  ·
   subst h;exact th18_unused hf hu
  ·
   have:=(way16_to hf h).2;rw [hu] at this;cases this
 · rfl)
def RetTickets17 (w:World) (S:Sv14) (e:Ending) (w':World):Prop:=∃ g,e = .returned (.slice (some ⟨g,0,none⟩) S.T.length S.T.length)/\w.heap.size<=g/\Bb13 w' g S.T.length (cntb17 S)/\Below w.heap.size w w'
theorem field17_0 (W:World) (a b:Value):(Instr.field 122 (.agg #[a,b]) 0).run Tryz.prog W = .ok a W:=by kernel_rfl
theorem tickets17 (v:Value) (S:Sv14) (w:World) (h:St14 w v S) (hf:Fine14 S):Calls Tryz.prog 88 #[v] w (RetTickets17 w S):=by
 obtain ⟨A0,A1,A2,A3,A4,n0,n1,n2,n3,n4,c0,c1,c2,c3,c4,sq,rfl,hs⟩:=h;have hx0:=Bx14.new hs;have hxn:=hx0.step (Below.refl _ _).drew;obtain ⟨W1,hW1⟩:=exq (w.alloc (.cells #[.slice A0 n0 c0,.slice A1 n1 c1,.slice A2 n2 c2,.slice A3 n3 c3,.slice A4 n4 c4,.int .i64 sq] 28));rw [hW1] at hx0 hxn
 have HP:Hid (RetTickets17 w S = fun e w' => ∃ g,e = .returned (.slice (some ⟨g,0,none⟩) S.T.length S.T.length)/\w.heap.size<=g/\Bb13 w' g S.T.length (cntb17 S)/\Below w.heap.size w w'):=qz rfl;have HX0:=qz hx0;obtain ⟨x0,x1,x2,x3,x4,x5⟩:=ce6 hx0.x;have HSM:=qz (fun W (h:Bx14 w S A0 A1 A2 A3 A4 n0 n1 n2 n3 n4 c0 c1 c2 c3 c4 sq W) => summed17 _ S W h.st hf)
 have HFL:=field17_0;clear hs hx0 hxn hf;go_enter Tryz.func88,Tryz.ntmps88;go_wp2_with fail;refine (HSM.out _ HX0.out).mono ?_;rintro e w3 ⟨g1,g2,rfl,h1,h2,h3,h4,hb3⟩;have HB:=qz (HX0.out.b.trans (hb3.mono HX0.out.b.size));have HG:Hid (w.heap.size<=g1):=qz (by have:=HX0.out.b.size; omega);have HR:=qz h3;obtain ⟨m1,hm1⟩:=exq S.T.length
 obtain ⟨m0,hm0⟩:=exq S.C.length;clear h1 h2 h3 h4 hb3 HX0 HSM x0 x1 x2 x3 x4 x5 hW1 hm1 hm0;go_wp2_with fail;go_ret;rw [HP.out];exact ⟨g1,rfl,HG.out,HR.out,HB.out⟩
def RetAmounts17 (w:World) (S:Sv14) (e:Ending) (w':World):Prop:=∃ g,e = .returned (.slice (some ⟨g,0,none⟩) S.C.length S.C.length)/\w.heap.size<=g/\Ib13 w' g S.C.length (fun x => amn17 S ((x:Nat):Int))/\Below w.heap.size w w'
theorem field17_1 (W:World) (a b:Value):(Instr.field 122 (.agg #[a,b]) 1).run Tryz.prog W = .ok b W:=by kernel_rfl
theorem amounts17 (v:Value) (S:Sv14) (w:World) (h:St14 w v S) (hf:Fine14 S):Calls Tryz.prog 89 #[v] w (RetAmounts17 w S):=by
 obtain ⟨A0,A1,A2,A3,A4,n0,n1,n2,n3,n4,c0,c1,c2,c3,c4,sq,rfl,hs⟩:=h;have hx0:=Bx14.new hs;have hxn:=hx0.step (Below.refl _ _).drew;obtain ⟨W1,hW1⟩:=exq (w.alloc (.cells #[.slice A0 n0 c0,.slice A1 n1 c1,.slice A2 n2 c2,.slice A3 n3 c3,.slice A4 n4 c4,.int .i64 sq] 28));rw [hW1] at hx0 hxn
 have HP:Hid (RetAmounts17 w S = fun e w' => ∃ g,e = .returned (.slice (some ⟨g,0,none⟩) S.C.length S.C.length)/\w.heap.size<=g/\Ib13 w' g S.C.length (fun x => amn17 S ((x:Nat):Int))/\Below w.heap.size w w'):=qz rfl;have HX0:=qz hx0;obtain ⟨x0,x1,x2,x3,x4,x5⟩:=ce6 hx0.x
 have HSM:=qz (fun W (h:Bx14 w S A0 A1 A2 A3 A4 n0 n1 n2 n3 n4 c0 c1 c2 c3 c4 sq W) => summed17 _ S W h.st hf);have HFL:=field17_1;clear hs hx0 hxn hf;go_enter Tryz.func89,Tryz.ntmps89;go_wp2_with fail;refine (HSM.out _ HX0.out).mono ?_;rintro e w3 ⟨g1,g2,rfl,h1,h2,h3,h4,hb3⟩;have HB:=qz (HX0.out.b.trans (hb3.mono HX0.out.b.size))
 have HG:Hid (w.heap.size<=g2):=qz (by have:=HX0.out.b.size; omega);have HR:=qz h4;obtain ⟨m1,hm1⟩:=exq S.T.length;obtain ⟨m0,hm0⟩:=exq S.C.length;clear h1 h2 h3 h4 hb3 HX0 HSM x0 x1 x2 x3 x4 x5 hW1 hm1 hm0;go_wp2_with fail;go_ret;rw [HP.out];exact ⟨g2,rfl,HG.out,HR.out,HB.out⟩
structure To18 (w:World) (B0 B1 B2 B3:Option Addr) (m0 d0 m1 d1 m2 d2 m3 d3:Nat) (m:Nat) (q:Nat->Nat × Nat) (W:World):Prop where
 b:Blk W w.heap.size 104 #[.slice B0 m0 d0,.slice B1 m1 d1,.slice B2 m2 d2,.slice B3 m3 d3]
 o:Blk W (w.heap.size + 1) 46 #[.slice none 0 0,.slice none 0 0]
 r:Qr18 W (w.heap.size + 2) m q
 z:Below w.heap.size w W
theorem To18.put {w:World} {B0 B1 B2 B3:Option Addr} {m0 d0 m1 d1 m2 d2 m3 d3 m k a b:Nat} {q:Nat->Nat × Nat} {W:World} (h:To18 w B0 B1 B2 B3 m0 d0 m1 d1 m2 d2 m3 d3 m q W) (hk:k < m) {A1 A2:Option Addr} {n1 c1 n2 c2 L1 L2:Nat} (hx:Nv W L1 (.slice A1 n1 c1) a) (hy:Nv W L2 (.slice A2 n2 c2) b) :
  To18 w B0 B1 B2 B3 m0 d0 m1 d1 m2 d2 m3 d3 m (upd q k (a,b)) (putq18 W (w.heap.size + 2) k (.slice A1 n1 c1) (.slice A2 n2 c2)) :=
 ⟨h.b.putq18 (by omega) _ _,h.o.putq18 (by omega) _ _,h.r.put hk hx hy,below_putq18 h.z (by omega) _ _⟩
theorem together18 (B0 B1 B2:Option Addr) (m0 d0 m1 d1 m2 d2 g4 n4:Nat) (A:Option Addr) (xs:List Nat) (m c:Nat) (q:Nat->Nat × Nat) (w:World) (hq:Qr18 w g4 n4 q) (hl:xs.length = m) (hr:Rd w w.heap.size A xs) (hx:∀ x∈xs,x < n4) (hs:∀ k,k < n4->Sm18 (q k)) (hm:m<=100) :
  Calls Tryz.prog 74 #[.agg #[.slice B0 m0 d0,.slice B1 m1 d1,.slice B2 m2 d2,.slice (some ⟨g4,0,none⟩) n4 n4],.slice A m c] w (RetQ w (((List.range m).map (fun k => q (nth xs k))).foldl addQ (0,1)).1 (((List.range m).map (fun k => q (nth xs k))).foldl addQ (0,1)).2):=by
 obtain ⟨B3,hB3⟩:=exq ((some ⟨g4,0,none⟩:Option Addr));have hmk:=make_ratios18 m (by omega);have hb1:=b1' w (.cells #[.slice B0 m0 d0,.slice B1 m1 d1,.slice B2 m2 d2,.slice B3 n4 n4] 104);have hk1:=Blk.new w 104 #[.slice B0 m0 d0,.slice B1 m1 d1,.slice B2 m2 d2,.slice B3 n4 n4]
 obtain ⟨W1,hW1⟩:=exq (w.alloc (.cells #[.slice B0 m0 d0,.slice B1 m1 d1,.slice B2 m2 d2,.slice B3 n4 n4] 104));have hz1:W1.heap.size = w.heap.size + 1:=by rw [<- hW1]; simp
 rw [hW1] at hb1 hk1;have hb2:=b1' W1 (.cells #[.slice none 0 0,.slice none 0 0] 46);have hk2:=Blk.new W1 46 #[.slice none 0 0,.slice none 0 0];obtain ⟨W2,hW2⟩:=exq (W1.alloc (.cells #[.slice none 0 0,.slice none 0 0] 46));have hz2:W2.heap.size = w.heap.size + 2:=by rw [<- hW2]; simp; omega
 rw [hW2,hz1] at hk2;rw [hW2] at hb2;have hb3:=b1' W2 (.cells (madeCells #[.slice none 0 0,.slice none 0 0] (m * 2)) 46);have hr3:=made18 W2 m;obtain ⟨W3,hW3⟩:=exq (W2.alloc (.cells (madeCells #[.slice none 0 0,.slice none 0 0] (m * 2)) 46));rw [hW3,hz2] at hr3;rw [hW3] at hb3
 have HT0:Hid (To18 w B0 B1 B2 B3 m0 d0 m1 d1 m2 d2 n4 n4 m (fun _ => (0,0)) W3):=qz ⟨(hk1.below hb2 hk1.lt).below hb3 (hk1.below hb2 hk1.lt).lt,hk2.below hb3 hk2.lt,hr3,(hb1.trans (hb2.mono hb1.size)).trans (hb3.mono (hb1.trans (hb2.mono hb1.size)).size)⟩;have HQ:=qz hq;have HR:=qz hr;have HX:=qz hx;have HS:=qz hs;have HL:=qz hl;have HB3:=qz hB3
 obtain ⟨X,hX⟩:=exq ((((List.range m).map (fun k => q (nth xs k))).foldl addQ (0,1)).1);obtain ⟨Y,hY⟩:=exq ((((List.range m).map (fun k => q (nth xs k))).foldl addQ (0,1)).2);rw [hX,hY,hB3];have HXY:=qz (And.intro hX hY);clear hX hY hb1 hk1 hb2 hk2 hb3 hr3 hq hr hx hs hl hB3;go_enter Tryz.func74,Tryz.ntmps74;go_wp2_with fail;clear hmk
 try rw [hz1]
 try rw [hz2]
 clear hW1 hW2 hW3 hz1 hz2;go_loopw [13] (fun i wr => ∃ (k:Nat) (q':Nat->Nat × Nat),i = .int .i64 (k:Int)/\k<=m/\Hid (∀ j,j < k->q' j = q (nth xs j))/\Hid (To18 w B0 B1 B2 B3 m0 d0 m1 d1 m2 d2 n4 n4 m q' wr)) (fun i _ => m - (intOf i).toNat)
 case atStart => exact ⟨0,_,rfl,by omega,qz (fun j hj => by omega),HT0⟩
 case round =>
  clear HT0;obtain ⟨k,q',rfl,hk,HM,HT⟩:=hrel;by_cases hkm:k < m
  ·
   have i0:(0:Int)<=(k:Int):=by omega
   have i1:(k:Int) < (m:Int):=by omega
   have hkl:k < xs.length:=by have:=HL.out; omega
   obtain ⟨ga,oa,hA,hab,p0⟩:=(HR.out.below HT.out.z (Nat.le_refl _)).at_ hkl;obtain ⟨j,hj⟩:=exq (nth xs k);have hj4:j < n4:=HX.out j (by rw [<- hj,nth_in hkl]; exact List.getElem_mem _);rw [hj] at p0;have j0:(0:Int)<=(j:Int):=by omega
   have j1:(j:Int) < (n4:Int):=by omega
   have hq4:=HQ.out.step HT.out.z;obtain ⟨C1,k1,r1,C2,k2,r2,e1,e2,v1,v2,_,_⟩:=hq4.cells hj4;have t3:wr.cell? ⟨w.heap.size,3,none⟩ = some (.slice (some ⟨g4,0,none⟩) n4 n4):=by rw [HB3.out]; exact HT.out.b.cell 3
   obtain ⟨_,_,_,_,_,_,u1,u2,_,_,f1,f2⟩:=HT.out.r.cells hkm;have HN:=qz (HT.out.put hkm v1 v2)
   have HMN:Hid (∀ i,i < k + 1->upd q' k ((q j).1,(q j).2) i = q (nth xs i)):=qz (fun i hi => by
    by_cases e:i = k
    · subst e; rw [upd_at,hj]
    · rw [upd_far _ _ e]; exact HM.out i (by omega))
   clear hj hq4 v1 v2 HT HM hab;subst hA;go_wp2_with fail;go_roundw
   case rel => exact ⟨k + 1,_,by go_num,by omega,HMN,HN⟩
   case measure => simp [intOf]; omega
  ·
   obtain rfl:m = k:=by omega
   have i1:¬ (m:Int) < (m:Int):=by omega
   have hq5:Qr18 wr (w.heap.size + 2) m (fun j => q (nth xs j)):=HT.out.r.congr HM.out;have hra:=hq5.rats (fun j hj => HS.out _ (HX.out _ (by rw [nth_in (by have:=HL.out; omega)]; exact List.getElem_mem _)));have HSU:=qz (sum18_any _ _ m m wr (by simp) hra hm);rw [HXY.out.1,HXY.out.2] at HSU;have HO:=qz HT.out.o;have HZ:=qz HT.out.z;have hlo:=HT.out.o.lt
   clear HXY hq5 hra HM HT hk;go_wp2_with fail;refine HSU.out.mono ?_;rintro e w2 ⟨A1,n1,c1,A2,n2,c2,rfl,hx,hy,hb2⟩;have hbk2:=HO.out.below hb2 hlo;have r0:=hbk2.cell 0;have r1:=hbk2.cell 1;have f0:=hbk2.frozen 0;have f1:=hbk2.frozen 1;have HX2:=qz hx;have HY2:=qz hy;have HBK2:=qz hbk2;have HBW:=qz (HZ.out.trans (hb2.mono HZ.out.size))
   clear hx hy hb2 hbk2 HSU HO HZ;go_wp2_with fail;have hp:=put_q HBK2.out (.slice A1 n1 c1) (.slice A2 n2 c2)
   exact bodyPost_ret (v:=.agg #[.slice A1 n1 c1,.slice A2 n2 c2]) (by simp [results,Tryz.results74,go_sem,hp.cell 0,hp.cell 1]) rfl
    ⟨_,_,_,_,_,_,rfl,(HX2.out.put_q hlo _ _).more (by omega),(HY2.out.put_q hlo _ _).more (by omega),(HBW.out.setCell (by show w.heap.size<=w.heap.size + 1; omega) _).setCell (by show w.heap.size<=w.heap.size + 1; omega) _⟩
structure Tb18 (w:World) (B0 B1 B2 B3:Option Addr) (m0 d0 m1 d1 m2 d2 m3 d3:Nat) (xu:Bool) (xc xa:Nat) (xk xt:Int) (xo:Bool) (W:World):Prop where
 b:Blk W w.heap.size 104 #[.slice B0 m0 d0,.slice B1 m1 d1,.slice B2 m2 d2,.slice B3 m3 d3]
 t:Blk W (w.heap.size + 1) 55 #[.bool xu,.int .i64 (xc:Int),.int .i64 (xa:Int),.int .i64 xk,.int .i64 xt,.bool xo]
 z:Below w.heap.size w W
theorem Tb18.low {w:World} {B0 B1 B2 B3:Option Addr} {m0 d0 m1 d1 m2 d2 m3 d3:Nat} {xu:Bool} {xc xa:Nat} {xk xt:Int} {xo:Bool} {W W':World} (h:Tb18 w B0 B1 B2 B3 m0 d0 m1 d1 m2 d2 m3 d3 xu xc xa xk xt xo W) (hb:Below (w.heap.size + 2) W W'):Tb18 w B0 B1 B2 B3 m0 d0 m1 d1 m2 d2 m3 d3 xu xc xa xk xt xo W' :=
 ⟨h.b.below hb (by omega),h.t.below hb (by omega),h.z.trans (hb.mono (by omega))⟩
theorem Tb18.step {w:World} {B0 B1 B2 B3:Option Addr} {m0 d0 m1 d1 m2 d2 m3 d3:Nat} {xu:Bool} {xc xa:Nat} {xk xt:Int} {xo:Bool} {W W':World} (h:Tb18 w B0 B1 B2 B3 m0 d0 m1 d1 m2 d2 m3 d3 xu xc xa xk xt xo W) (hb:Below W.heap.size W W'):Tb18 w B0 B1 B2 B3 m0 d0 m1 d1 m2 d2 m3 d3 xu xc xa xk xt xo W' :=
 ⟨h.b.below hb h.b.lt,h.t.below hb h.t.lt,h.z.trans (hb.mono h.z.size)⟩
theorem ticket18 (B0 B3:Option Addr) (m0 d0 g2 g3 n0 m3 d3:Nat) (xu:Bool) (xc xa:Nat) (xk xt:Int) (xo:Bool) (Am:Nat->Nat) (q:Nat->Nat × Nat) (x:Rat) (w:World) (h2:Ib13 w g2 n0 Am) (h3:Qr18 w g3 n0 q) (hc:xc < n0) (ha:xa < 1073741824) (hA:Am xc < 1073741824) (hA0:0 < Am xc) (hx0:0<=x) (hx:q xc = qr18 x) (hs:Sm18 (q xc)) :
  Calls Tryz.prog 107 #[.agg #[.slice B0 m0 d0,.slice (some ⟨g2,0,none⟩) n0 n0,.slice (some ⟨g3,0,none⟩) n0 n0,.slice B3 m3 d3],.agg #[.bool xu,.int .i64 (xc:Int),.int .i64 (xa:Int),.int .i64 xk,.int .i64 xt,.bool xo]] w (RetQ w (qr18 ((xa:Rat) / (Am xc:Rat) * x)).1 (qr18 ((xa:Rat) / (Am xc:Rat) * x)).2):=by
 obtain ⟨B1,hB1⟩:=exq ((some ⟨g2,0,none⟩:Option Addr));obtain ⟨B2,hB2⟩:=exq ((some ⟨g3,0,none⟩:Option Addr));have HB1:=qz hB1.symm;have HB2:=qz hB2.symm;rw [hB1,hB2];clear hB1 hB2;have hk1:=Blk.new w 104 #[.slice B0 m0 d0,.slice B1 n0 n0,.slice B2 n0 n0,.slice B3 m3 d3]
 have hb1:=b1' w (.cells #[.slice B0 m0 d0,.slice B1 n0 n0,.slice B2 n0 n0,.slice B3 m3 d3] 104);obtain ⟨W1,hW1⟩:=exq (w.alloc (.cells #[.slice B0 m0 d0,.slice B1 n0 n0,.slice B2 n0 n0,.slice B3 m3 d3] 104));have hz1:W1.heap.size = w.heap.size + 1:=by rw [<- hW1]; simp
 rw [hW1] at hb1 hk1;have hb2:=b1' W1 (.cells #[.bool xu,.int .i64 (xc:Int),.int .i64 (xa:Int),.int .i64 xk,.int .i64 xt,.bool xo] 55);have hk2:=Blk.new W1 55 #[.bool xu,.int .i64 (xc:Int),.int .i64 (xa:Int),.int .i64 xk,.int .i64 xt,.bool xo]
 obtain ⟨W2,hW2⟩:=exq (W1.alloc (.cells #[.bool xu,.int .i64 (xc:Int),.int .i64 (xa:Int),.int .i64 xk,.int .i64 xt,.bool xo] 55));have hz2:W2.heap.size = w.heap.size + 2:=by rw [<- hW2]; simp; omega
 rw [hW2,hz1] at hk2;rw [hW2] at hb2;have hb3:=b1' W2 (.cells #[.slice none 0 0,.slice none 0 0] 46);have hk3:=Blk.new W2 46 #[.slice none 0 0,.slice none 0 0];obtain ⟨W3,hW3⟩:=exq (W2.alloc (.cells #[.slice none 0 0,.slice none 0 0] 46));rw [hW3,hz2] at hk3;rw [hW3] at hb3
 have hz3:Below w.heap.size w W3:=(hb1.trans (hb2.mono hb1.size)).trans (hb3.mono (hb1.trans (hb2.mono hb1.size)).size);have HQ0:Hid (Tb18 w B0 B1 B2 B3 m0 d0 n0 n0 n0 n0 m3 d3 xu xc xa xk xt xo W3):=qz ⟨(hk1.below hb2 hk1.lt).below hb3 (hk1.below hb2 hk1.lt).lt,hk2.below hb3 hk2.lt,hz3⟩
 have HO:Hid (Blk W3.drew (w.heap.size + 2) 46 #[.slice none 0 0,.slice none 0 0]):=qz (hk3.below (Below.refl W3.heap.size W3).drew hk3.lt);obtain ⟨z,hz⟩:=exq (Am xc);have a0:w.cell? ⟨g2,xc,none⟩ = some (.int .i64 (z:Int)):=by rw [<- hz]; exact (h2.cells hc).1
 rw [hz] at hA hA0 ⊢;obtain ⟨C1,k1,r1,C2,k2,r2,e1,e2,v1,v2,_,_⟩:=h3.cells hc;have hsm:=hs;rw [hx] at v1 v2 hsm;have HV1:=qz (v1.nr hsm.1);have HV2:=qz (v2.nr hsm.2);have HSH:=qz (fun W => share18 xa z (by omega) (by omega) hA0 W);have hgd:=qr18_div (n:=xa) (d:=z) hA0;obtain ⟨y,hy⟩:∃ y:Rat,(xa:Rat) / (z:Rat) = y:=⟨_,rfl⟩
 have hy0:0<=y:=by
  rw [<- hy];exact rat18_div _ _ (by exact_mod_cast Nat.zero_le _) (by exact_mod_cast hA0)
 have hp1:xa / Nat.gcd xa z < 4294967296 ^ 18:=Nat.lt_of_le_of_lt (Nat.div_le_self _ _) (Nat.lt_trans (by omega:xa < 4294967296 ^ 1) (Nat.pow_lt_pow_right (by omega) (by omega)));have hp2:z / Nat.gcd xa z < 4294967296 ^ 18:=Nat.lt_of_le_of_lt (Nat.div_le_self _ _) (Nat.lt_trans (by omega:z < 4294967296 ^ 1) (Nat.pow_lt_pow_right (by omega) (by omega)))
 obtain ⟨s1,hs1⟩:=exq (xa / Nat.gcd xa z);obtain ⟨s2,hs2⟩:=exq (z / Nat.gcd xa z);rw [hy] at hgd ⊢;rw [hs1] at hp1;rw [hs2] at hp2;have HE1:Hid (s1 = (qr18 y).1):=qz (by rw [<- hgd,hs1]);have HE2:Hid (s2 = (qr18 y).2):=qz (by rw [<- hgd,hs2]);have HMU:=qz (qr18_mul2 hy0 hx0);rw [hs1,hs2] at HSH;obtain ⟨u1,hu1⟩:=exq ((qr18 (y * x)).1)
 obtain ⟨u2,hu2⟩:=exq ((qr18 (y * x)).2);have HU:=qz (And.intro hu1 hu2);rw [hu1,hu2];have HP1:=qz hp1;have HP2:=qz hp2;have HA0:=qz a0;have HC1:=qz e1;have HC2:=qz e2;have c0:(0:Int)<=(xc:Int):=by omega
 have c1:(xc:Int) < (n0:Int):=by omega
 clear hz h2 h3 hc ha hA hA0 hx0 hx hs hk1 hb1 hb2 hk2 hb3 hk3 hz3 a0 e1 e2 v1 v2 hsm hgd hy hy0 hp1 hp2 hs1 hs2 hu1 hu2;go_enter Tryz.func107,Tryz.ntmps107;go_upto_region 1 with (fail)
 try rw [hz1]
 try rw [hz2]
 clear hW1 hW2 hW3 hz1 hz2;have HXN:Hid (Tb18 w B0 B1 B2 B3 m0 d0 n0 n0 n0 n0 m3 d3 xu xc xa xk xt xo W3.drew):=qz (HQ0.out.step (Below.refl _ _).drew);clear HQ0;obtain ⟨wn,hwn⟩:=exq W3.drew;rw [hwn] at HXN HO;go_wp2_with fail
 refine wp_region_held_drew (S:=Tb18 w B0 B1 B2 B3 m0 d0 n0 n0 n0 n0 m3 d3 xu xc xa xk xt xo) (by kernel_rfl) (by rw [hwn]; exact HXN.out) (fun hHeld => ?_);rw [hwn] at hHeld ⊢;clear hwn;have HBS:=HXN;refine tkq 0 ?_;refine tk 1 (v:=?_) (fun W hS => ?_) ?_;rotate_left
 ·
  try dsimp only at hS
  have z0:=hS.t.cell 2;go_simp
  try with_reducible rfl
 try simp only [Act.put,pt1,pt2,pt3]
 refine tkq 2 ?_;refine tk 3 (v:=?_) (fun W hS => ?_) ?_;rotate_left
 ·
  try dsimp only at hS
  have z0:=hS.b.cell 1;go_simp
  try with_reducible rfl
 try simp only [Act.put,pt1,pt2,pt3]
 refine tkq 4 ?_;refine tk 5 (v:=?_) (fun W hS => ?_) ?_;rotate_left
 ·
  try dsimp only at hS
  have z0:=hS.t.cell 1;go_simp
  try with_reducible rfl
 try simp only [Act.put,pt1,pt2,pt3]
 refine tk 6 (v:=?_) (fun W hS => ?_) ?_;rotate_left
 ·
  try dsimp only at hS
  have z0:=HB1.out;go_simp
  try with_reducible rfl
 try simp only [Act.put,pt1,pt2,pt3]
 refine tk 7 (v:=?_) (fun W hS => ?_) ?_;rotate_left
 ·
  try dsimp only at hS
  have z0:=(hS.z.cell (World.block_lt_of_cell? _ _ HA0.out)).trans HA0.out;go_simp
  try with_reducible rfl
 try simp only [Act.put,pt1,pt2,pt3]
 refine tkq 9 ?_;refine tk 10 (v:=?_) (fun W hS => ?_) ?_;rotate_left
 ·
  try dsimp only at hS
  have z0:=hS.b.cell 2;go_simp
  try with_reducible rfl
 try simp only [Act.put,pt1,pt2,pt3]
 refine tkq 11 ?_;refine tk 12 (v:=?_) (fun W hS => ?_) ?_;rotate_left
 ·
  try dsimp only at hS
  have z0:=hS.t.cell 1;go_simp
  try with_reducible rfl
 try simp only [Act.put,pt1,pt2,pt3]
 refine tk 13 (v:=?_) (fun W hS => ?_) ?_;rotate_left
 ·
  try dsimp only at hS
  have z0:=HB2.out;go_simp
  try with_reducible rfl
 try simp only [Act.put,pt1,pt2,pt3]
 refine tk 14 (v:=?_) (fun W hS => ?_) ?_;rotate_left
 ·
  try dsimp only at hS
  have z0:=(hS.z.cell (World.block_lt_of_cell? _ _ HC1.out)).trans HC1.out;have z1:=(hS.z.cell (World.block_lt_of_cell? _ _ HC2.out)).trans HC2.out;go_simp
  try with_reducible rfl
 try simp only [Act.put,pt1,pt2,pt3]
 refine rdy 8 (fun K hK => ?_);have HBS0:=HBS;go_simp;refine (HSH.out wn).mono ?_;rintro e wn ⟨D1,i1,t1,D2,i2,t2,rfl,hx,hy,hb⟩;have HBS:=qz (HBS0.out.step hb);have HO:=qz (HO.out.below hb HO.out.lt);have HX:=qz hx;have HY:=qz hy;clear hb HBS0 hx hy;refine koq hK HBS.out (fun hHeld=>?_);clear hK K;refine rdy 15 (fun K hK => ?_);have HBS0:=HBS;go_simp
 have hb:=b1' wn (.cells #[.slice D1 i1 t1,.slice D2 i2 t2,.slice C1 k1 r1,.slice C2 k2 r2] 46);have HK:=qz (Blk.new wn 46 #[.slice D1 i1 t1,.slice D2 i2 t2,.slice C1 k1 r1,.slice C2 k2 r2]);have HBS:=qz (HBS0.out.step hb);have HO:=qz (HO.out.below hb HO.out.lt);have HX:=qz (HX.out.below hb);have HY:=qz (HY.out.below hb);clear hb HBS0
 obtain ⟨gk,hgk⟩:=exq wn.heap.size;obtain ⟨wm,hwm⟩:=exq (wn.alloc (.cells #[.slice D1 i1 t1,.slice D2 i2 t2,.slice C1 k1 r1,.slice C2 k2 r2] 46));rw [hwm] at HBS HO HX HY HK;rw [hgk] at HK ⊢;rw [hwm];clear hwm hgk;obtain ⟨wn,hwn⟩:∃ W,W = wm:=⟨_,rfl⟩
 subst hwn;refine koq hK HBS.out (fun hHeld=>?_);clear hK K;refine rdy 16 (fun K hK => ?_);have HBS0:=HBS;go_simp;refine (ratioMul_wide (some ⟨gk,0,none⟩) [(s1,s2),((qr18 x).1,(qr18 x).2)] 2 2 18 wn rfl (ratsN2 HK.out (HX.out.nr HP1.out) (HY.out.nr HP2.out) (HV1.out.below (HBS0.out.z)) (HV2.out.below (HBS0.out.z))) (by omega) (by omega) (by omega)).mono ?_
 have hz:=HO.out.lt;rw [show ([(s1,s2),((qr18 x).1,(qr18 x).2)]:List (Nat × Nat)) = [qr18 y,qr18 x] by rw [HE1.out,HE2.out],HMU.out,HU.out.1,HU.out.2];rintro e wn ⟨E1,j1,o1,E2,j2,o2,rfl,hx,hy,hb⟩;have HBS:=qz (HBS0.out.step hb);have HO:=qz (HO.out.below hb HO.out.lt);have HX:=qz hx;have HY:=qz hy;have HZ:=qz hz;clear hb HBS0 hx hy HK hz
 refine koq hK HBS.out (fun hHeld=>?_);clear hK K;refine rdy 17 (fun K hK => ?_);have x0:=HO.out.cell 0;have x1:=HO.out.cell 1;have xf0:=HO.out.frozen 0;have xf1:=HO.out.frozen 1;have HBS0:=HBS;go_simp;obtain ⟨wm,hwm⟩:=exq ((wn.setCell ⟨w.heap.size + 2,0,none⟩ (.slice E1 j1 o1)).setCell ⟨w.heap.size + 2,1,none⟩ (.slice E2 j2 o2))
 have HBS:=qz (HBS0.out.low (W':=wm) (by rw [<- hwm]; exact ((Below.refl _ _).setCell (show w.heap.size + 2<=w.heap.size + 2 from Nat.le_refl _) _).setCell (show w.heap.size + 2<=w.heap.size + 2 from Nat.le_refl _) _));have HX:=qz (show Nv wm _ (.slice E1 j1 o1) u1 by rw [<- hwm]; exact HX.out.put_q HZ.out _ _)
 have HY:=qz (show Nv wm _ (.slice E2 j2 o2) u2 by rw [<- hwm]; exact HY.out.put_q HZ.out _ _);have HO:=qz (show Blk wm (w.heap.size + 2) 46 #[.slice E1 j1 o1,.slice E2 j2 o2] by rw [<- hwm]; exact put_q HO.out _ _);rw [hwm];clear hwm x0 x1 xf0 xf1 HBS0;obtain ⟨wn,hwn⟩:∃ W,W = wm:=⟨_,rfl⟩
 subst hwn;refine koq hK HBS.out (fun hHeld=>?_);clear hK K;refine wpAnyH_done (by kernel_rfl) ?_ _;clear hHeld;have x0:=HO.out.cell 0;have x1:=HO.out.cell 1;go_wp2_with fail
 exact bodyPost_ret (v:=.agg #[.slice E1 j1 o1,.slice E2 j2 o2]) (by simp [results,Tryz.results107,go_sem,x0,x1]) rfl
  ⟨_,_,_,_,_,_,rfl,HX.out.more (by have:=HZ.out; omega),HY.out.more (by have:=HZ.out; omega),HBS.out.z⟩
end
end Go.Proofs.YtkdmnlihpebbkaaGreat
