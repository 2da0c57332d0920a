/-
  Lines: the words of a line: the program's.
-/
import Derived.Test.YtbhdibeiojeadaaDoorSeqG
import Derived.Test.YtbhdibeiojeadaaDoorOwnK
import Derived.Test.YtbhdibeiojeadaaDoorL6P
import Derived.Test.YtbhdibeiojeadaaDoorL6G
import Derived.Maps.AppendAt
namespace Go.Proofs.YtbhdibeiojeadaaDoor
open Go.RowKit Go.Shelf
attribute [local go_sem] Oper.semAt_some
set_option maxRecDepth 100000

/-- Between two rounds of Split: the words so far, in the variable at block T; the results at R and L; the iterator's text at S. -/
structure SpMem (w : World) (R L T S B : Nat) (ss : List ByteArray) (W : World) : Prop where
  below : Below w.heap.size w W
  bsz : B ≤ W.heap.size
  res : Blk W R 22 #[.slice none 0 0]
  fine : Blk W L 4 #[.bool false]
  own : ∃ v, Blk W S 9 #[v]
  row : ∃ A n c, Blk W T 22 #[.slice A n c] ∧ W.ownsRow B 9 1 (.slice A n c) n (strs ss)
theorem SpMem.kept {w : World} {R L T S B : Nat} {ss : List ByteArray} {X Y : World} {row : Option Nat} (h : SpMem w R L T S B ss X) (hg : X.grownBy Y row) {C : Nat} (hC : w.heap.size ≤ C)
    (hr : ∀ r, row = some r → C ≤ r ∧ ∃ o : Obj, X.heap[r]? = some o ∧ o.isCells = false) : SpMem w R L T S B ss Y := by
  have hr2 : ∀ r, row = some r → ∃ o : Obj, X.heap[r]? = some o ∧ o.isCells = false := fun r e => (hr r e).2
  obtain ⟨A, n, c, h1, h2⟩ := h.row
  obtain ⟨v, h3⟩ := h.own
  exact ⟨h.below.grown hg h.below.size (fun r e => by have := (hr r e).1; omega), Nat.le_trans h.bsz hg.size, blk_kept h.res hg hr2, blk_kept h.fine hg hr2, ⟨v, blk_kept h3 hg hr2⟩, A, n, c, blk_kept h1 hg hr2, own_kept h2 hg hr2⟩
theorem SpMem.write {w : World} {R L T S B : Nat} {ss : List ByteArray} {X : World} (h : SpMem w R L T S B ss X) (hR : R < S) (hL : L < S) (hT : T < S) (hw : w.heap.size ≤ S) (hB : S < B) (u : Value) : SpMem w R L T S B ss (X.setCell ⟨S, 0, none⟩ u) := by
  obtain ⟨A, n, c, h1, h2⟩ := h.row
  obtain ⟨v, h3⟩ := h.own
  exact ⟨h.below.setCell hw _, by rw [show (X.setCell ⟨S, 0, none⟩ u).heap.size = X.heap.size by simp [World.setCell]]; exact h.bsz, h.res.far (by show R ≠ S; omega) _, h.fine.far (by show L ≠ S; omega) _, ⟨_, h3.set_ 0 u⟩, A, n, c, h1.far (by show T ≠ S; omega) _,
    own_far h2 (grownBy_setCell' X S u) (own_base h2 hB)⟩
theorem strs_take {ps : List ByteArray} {k : Nat} (hk : k < ps.length) : strs (ps.take (k + 1)) = strs (ps.take k) ++ [.string (pat ps k)] := by
  rw [List.take_add_one, List.getElem?_eq_getElem hk, strs_append]
  unfold pat
  rw [List.getD_eq_getElem?_getD, List.getElem?_eq_getElem hk]
  rfl
theorem blk_at (w : World) (t : TypeId) (cs : Array Value) {g : Nat} (hg : w.heap.size = g) : Blk (w.alloc (.cells cs t)) g t cs := hg ▸ Blk.new w t cs
theorem splitSeq_at (s : ByteArray) (w : World) (S : Nat) (hS : w.heap.size = S) :
    Calls Tryd.prog 26 #[.string s, .string ⟨#[32]⟩] w fun e w' => e = .returned (.func (.func 55) #[] #[.pointer (some ⟨S + 1, 0, none⟩), .pointer (some ⟨S, 0, none⟩), .pointer (some ⟨S + 2, 0, none⟩)]) ∧
      ((w.alloc (.cells #[.string s] 9)).alloc (.cells #[.string ⟨#[32]⟩] 9)).alloc (.cells #[.int .i64 0] 3) = w' := hS ▸ splitSeq_any s w

set_option maxHeartbeats 4000000 in
theorem pSplit_any (s : ByteArray) (w : World) (hs : s.size ≤ 1000000) :
    Calls Tryd.prog 10 #[.string s] w (SplitA w s.data.toList s.size) := by
  obtain ⟨ps, hps⟩ : ∃ ps, pc 32 s = ps := ⟨_, rfl⟩
  have HP : Hid (SplitA w s.data.toList s.size = fun e w' => ((wordsB ps = true ∧ ∃ A n cp, e = .returned (.tuple #[.slice A n cp, .bool true]) ∧ w'.ownsRow w.heap.size 9 1 (.slice A n cp) n (strs ps)) ∨ (wordsB ps = false ∧ e = .returned (.tuple #[.slice none 0 0, .bool false]))) ∧ Below w.heap.size w w') := Lib.hid (by unfold SplitA; rw [← hps]; rfl)
  have hcl := cutTo_len 32 s.data.toList s.size
  have hsz : ∀ j, (pat ps j).size ≤ 4611686018427387904 := fun j => by have := cutTo_size 32 s.data.toList s.size j; rw [← hps]; unfold pat pc; omega
  rw [show cutTo 32 s.data.toList s.size = ps from hps] at hcl
  have HSZ := Lib.hid hsz
  have HPS := Lib.hid hps
  clear hps hsz
  obtain ⟨S, hS⟩ : ∃ S, w.heap.size + 3 = S := ⟨_, rfl⟩
  have HS := Lib.hid hS
  have hS1 : w.heap.size + 3 ≤ S := by omega
  clear hS
  refine calls_of_leave Tryd.func10 rfl ?_
  simp only [Tryd.ntmps10, List.size_toArray, List.length_cons, List.length_nil, Nat.reduceAdd, Nat.reduceSub, Array.replicate_succ, Array.replicate_zero, List.push_toArray, List.append_toArray, List.nil_append, List.cons_append]
  go_wp2_with fail
  refine (splitSeq_at s _ S (by simp; exact HS.out)).mono ?_
  rintro e W0 ⟨rfl, hW0⟩
  have hsz0 : W0.heap.size = S + 3 := by rw [← hW0]; simp; have := HS.out; omega
  have f1 : Blk W0 w.heap.size 22 #[.slice none 0 0] := by rw [← hW0]; exact (((((blk_at w _ _ rfl).alloc _).alloc _).alloc _).alloc _).alloc _
  have f2 : Blk W0 (w.heap.size + 1) 4 #[.bool false] := by rw [← hW0]; exact ((((blk_at _ _ _ (by simp)).alloc _).alloc _).alloc _).alloc _
  have f3 : Blk W0 (w.heap.size + 1 + 1) 22 #[.slice none 0 0] := by rw [← hW0]; exact (((blk_at _ _ _ (by simp)).alloc _).alloc _).alloc _
  have f4 : Blk W0 S 9 #[.string s] := by rw [← hW0]; exact ((blk_at _ _ _ (by simp; exact HS.out)).alloc _).alloc _
  have f5 : Blk W0 (S + 1) 9 #[.string ⟨#[32]⟩] := by rw [← hW0]; exact (blk_at _ _ _ (by simp; have := HS.out; omega)).alloc _
  have f6 : Blk W0 (S + 2) 3 #[.int .i64 0] := by rw [← hW0]; exact blk_at _ _ _ (by simp; have := HS.out; omega)
  have hB0 : Below w.heap.size w W0 := by
    rw [← hW0]
    exact (((((b1' w _).trans ((b1' _ _).mono (by simp))).trans ((b1' _ _).mono (by simp; omega))).trans ((b1' _ _).mono (by simp; omega))).trans ((b1' _ _).mono (by simp; omega))).trans ((b1' _ _).mono (by simp; omega))
  have hgo := split_goes S (S + 1) (S + 2) (by omega) (by omega) s ps W0 HPS.out (by omega) (f4.cell 0) (f5.cell 0) (f6.cell 0)
  have hI0 : SpMem w w.heap.size (w.heap.size + 1) (w.heap.size + 1 + 1) S (S + 3) [] W0 := ⟨hB0, by omega, f1, f2, ⟨_, f4⟩, none, 0, 0, f3, World.ownsRow_nil _ _ _ _⟩
  have HI0 := Lib.hid hI0
  clear f1 f2 f3 f4 f5 f6 hI0
  go_wp2_with fail
  refine (wpIn_wide (n := 5)).1 ?_
  refine wpIn_rangeFunc_goesW rfl (by omega) (gf := 55) (lb := #[.pointer (some ⟨S + 1, 0, none⟩), .pointer (some ⟨S, 0, none⟩), .pointer (some ⟨S + 2, 0, none⟩)]) rfl trivial (enters_of Tryd.func55 (by kernel_rfl) rfl)
    (own := ⟨S, 0, none⟩) (by show S < W0.heap.size; omega) hgo (fun k p hp => by rcases hp with rfl | rfl | rfl <;> simp only <;> omega) (Below.refl _ _) (fun _ => rfl)
    (fun k W => SpMem w w.heap.size (w.heap.size + 1) (w.heap.size + 1 + 1) S (S + 3) (ps.take k) W ∧ ∀ j, j < k → wordB (pat ps j).data.toList = true)
    (fun c _ W => c = .ret ∧ wordsB ps = false ∧ Below w.heap.size w W ∧ Blk W w.heap.size 22 #[.slice none 0 0] ∧ Blk W (w.heap.size + 1) 4 #[.bool false])
    (fun s X Y row hs hg hr => ⟨hs.1.kept hg (by omega) hr, hs.2⟩)
    (fun c s X Y row hs hg hr => ⟨hs.1, hs.2.1, hs.2.2.1.grown hg hs.2.2.1.size (fun r e => by have := (hr r e).1; omega), blk_kept hs.2.2.2.1 hg (fun r e => (hr r e).2), blk_kept hs.2.2.2.2 hg (fun r e => (hr r e).2)⟩)
    (fun k W v hs => ⟨hs.1.write (by omega) (by omega) (by omega) (by omega) (by omega) v, hs.2⟩)
    (fun k W hs => by obtain ⟨v, hv⟩ := hs.1.own; exact hv.frozen 0)
    ⟨HI0.out, fun j hj => by omega⟩ ?round ?done ?stop
  case round =>
    intro l k W hk _
    simp only [senc]
    gi_wp2
    refine ⟨trivial, ?_⟩
    rintro Wb ⟨hm, hall⟩
    obtain ⟨x, hx⟩ : ∃ x, pat ps k = x := ⟨_, rfl⟩
    rw [hx]
    have hxs := HSZ.out k
    rw [hx] at hxs
    obtain ⟨z, hz⟩ : ∃ z, wordB x.data.toList = z := ⟨_, rfl⟩
    have hw := pWord_any x Wb hxs
    rw [hz] at hw
    have hw := CallsIn.inRound l (callsIn_wide (n := 2).2 hw)
    obtain ⟨A5, n5, c5, hb5, hown5⟩ := hm.row
    have cx := hb5.cell 0
    have fx := hb5.frozen 0
    have cr := hm.res.cell 0
    have fr := hm.res.frozen 0
    have cl := hm.fine.cell 0
    have fl := hm.fine.frozen 0
    have hBel := hm.below
    have hn5 : n5 ≤ 1000001 := by have h1 := hown5.1; rw [strs_length, List.length_take] at h1; omega
    have HM := Lib.hid hm
    have HALL := Lib.hid hall
    have HX := Lib.hid hx
    have HZ := Lib.hid hz
    have HO5 := Lib.hid hown5
    have HB5 := Lib.hid hb5
    clear hm hall hx hz hown5 hb5
    gi_wp2_with fail
    refine ⟨trivial, ?_⟩
    refine hw.mono ?_
    rintro e w2 ⟨rfl, rfl⟩
    cases z with
    | false =>
      have HNO : Hid (wordsB ps = false) := Lib.hid (wordsB_no hk (by have := HZ.out; rw [← HX.out] at this; exact this))
      gi_wp2_with fail
      refine ⟨((KeepsOthers.setCell _ _ _).trans (KeepsOthers.setCell _ _ _)).from _, rfl, HNO.out, (hBel.setCell (by simp) _).setCell (by simp) _, ?_, ?_⟩
      · exact (HM.out.res.set_ 0 _).far (by simp) _
      · exact (HM.out.fine.far (by simp) _).set_ 0 _
    | true =>
      gi_wp2_with (gi_at_builtin; refine wpListIn_append_v1 _ rfl (.tmp 12) (.tmp 14) 22 rfl (S + 3) 9 Tryd.underlying22 (.string ⟨#[]⟩) 16 info_str rfl (.slice A5 n5 c5) n5 _ rfl (own_last HO5.out (b1' _ _)) _ (.string x) rfl ((Blk.new _ _ _).cell 0) rfl (by omega) (by omega) (by have := HM.out.bsz; simp; omega) ?_)
      intro A6 c6 W6 hc6 hown6 hg6
      have hOA := own_last HO5.out (b1' w2 (.cells #[.string x] 9))
      have hbA := HB5.out.alloc (.cells #[.string x] 9)
      have hb6 := hbA.grown hg6 (fun e => own_ne hOA hbA (by decide) e.symm)
      have cx6 := hb6.cell 0
      have fx6 := hb6.frozen 0
      have hne6 := own_ne hown6.out hb6 (by decide)
      have hrA := HM.out.res.alloc (.cells #[.string x] 9)
      have hr6 := hrA.grown hg6 (fun e => own_ne hOA hrA (by decide) e.symm)
      have hlA := HM.out.fine.alloc (.cells #[.string x] 9)
      have hl6 := hlA.grown hg6 (fun e => own_ne hOA hlA (by decide) e.symm)
      have hk6 : KeepsOthers w2 W6 := (ko_below (b1' w2 _)).trans (ko_owned hOA hg6)
      have hs6 : Same (skeep S (S + 1) (S + 2) k) w2 W6 := (Same.of_below (b1' w2 _) (fun p hp => by have := HM.out.bsz; rcases hp with rfl | rfl | rfl <;> simp only <;> omega)).trans
        (same_written hg6 (fun p hp e => own_base (g := p.block) hOA (by rcases hp with rfl | rfl | rfl <;> simp only <;> omega) e.symm))
      have hB6 : Below w.heap.size w W6 := (hBel.trans ((b1' w2 _).mono hBel.size)).grown hg6 (by simp; have := hBel.size; omega) (fun r hr => by have := (World.ownsRow.lt hOA r hr).1; omega)
      have hz6 := hg6.size
      have hbs := HM.out.bsz
      have HOWN : Hid (∃ v, Blk W6 S 9 #[v]) := Lib.hid (by
        obtain ⟨v, hv⟩ := HM.out.own
        exact ⟨v, (hv.alloc _).grown hg6 (fun e => own_base hOA (by omega) e.symm)⟩)
      have HF6 : Hid (W6.ownsRow (S + 3) 9 1 (.slice A6 (n5 + 1) c6) (n5 + 1) (strs (ps.take (k + 1)))) := Lib.hid (by rw [strs_take hk, HX.out]; exact hown6.out)
      have HB6 := Lib.hid hb6
      have HR6 := Lib.hid hr6
      have HL6 := Lib.hid hl6
      have HYES : Hid (wordB (pat ps k).data.toList = true) := Lib.hid (by rw [HX.out]; exact HZ.out)
      rw [World.size_alloc] at hz6
      clear hown6 hg6 hb6 hr6 hl6 hOA hbA hrA hlA
      gi_wp2_with fail
      refine ⟨(hk6.trans (KeepsOthers.setCell _ _ _)).from _, hs6.trans (Same.setCell (fun p hp e => ?_) _), ⟨hB6.setCell (by simp; omega) _, by rw [show (W6.setCell _ _).heap.size = W6.heap.size by simp [World.setCell]]; omega, HR6.out.far (by simp; omega) _, HL6.out.far (by simp) _, ?_, A6, _, c6, HB6.out.set_ 0 _, own_far HF6.out (grownBy_setCell' W6 (w.heap.size + 1 + 1) _) hne6⟩, fun j hj => ?_⟩
      · rcases hp with rfl | rfl | rfl <;> simp only at e <;> omega
      · obtain ⟨v, hv⟩ := HOWN.out
        exact ⟨v, hv.far (by simp; omega) _⟩
      · rcases Nat.lt_or_ge j k with h | h
        · exact HALL.out j h
        · obtain rfl : j = k := by omega
          exact HYES.out
  case done =>
    rintro D W hD ⟨hm, hall⟩ hK
    rw [List.take_length] at hm
    obtain ⟨A5, n5, c5, hb5, hown5⟩ := hm.row
    have cx := hb5.cell 0
    have cr := hm.res.cell 0
    have fr := hm.res.frozen 0
    have cl := hm.fine.cell 0
    have fl := hm.fine.frozen 0
    have hA : Hid (wordsB ps = true) := Lib.hid (wordsB_yes hall)
    have hK1 := (KeepsOthers.setCell W ⟨w.heap.size, 0, none⟩ (.slice A5 n5 c5)).same D _ hK rfl
    have hK2 := (KeepsOthers.setCell (W.setCell ⟨w.heap.size, 0, none⟩ (.slice A5 n5 c5)) ⟨w.heap.size + 1, 0, none⟩ (.bool true)).same D _ hK1 rfl
    have hb2 : Below w.heap.size w ((W.setCell ⟨w.heap.size, 0, none⟩ (.slice A5 n5 c5)).setCell ⟨w.heap.size + 1, 0, none⟩ (.bool true)) := (hm.below.setCell (by simp) _).setCell (by simp) _
    have hr2 := (hm.res.set_ 0 (.slice A5 n5 c5)).far (p := ⟨w.heap.size + 1, 0, none⟩) (by simp) (.bool true)
    have hl2 := (hm.fine.far (p := ⟨w.heap.size, 0, none⟩) (by simp) (.slice A5 n5 c5)).set_ 0 (.bool true)
    have ho2 := own_far (own_far hown5 (grownBy_setCell' W w.heap.size (.slice A5 n5 c5)) (own_base hown5 (by omega))) (grownBy_setCell' _ (w.heap.size + 1) (.bool true)) (own_base hown5 (by omega))
    have hRR := mark_cell hK2 (hr2.cell 0)
    have hLL := mark_cell hK2 (hl2.cell 0)
    have HR := Lib.hid hRR
    have HL := Lib.hid hLL
    have HK2 := Lib.hid hK2
    have HO := Lib.hid (own_kept ho2 (grownBy_putObj' _ D (.deferred none)) (fun r e => by cases e; exact ⟨_, hK2, rfl⟩))
    have HB2 := Lib.hid (mark_below hb2 hK2 (by have := hm.below.size; omega))
    clear hm hb5 hown5 hall hK1 hK2 hb2 hr2 hl2 ho2 hRR hLL
    go_wp2_with fail
    rw [HP.out]
    have hRR := HR.out
    have hLL := HL.out
    exact leave_mark (v := .tuple #[.slice A5 n5 c5, .bool true]) HK2.out (by simp [results, Tryd.results10, go_sem, hRR, hLL]) ⟨.inl ⟨hA.out, _, _, _, rfl, own_more HO.out (by omega)⟩, HB2.out⟩
  case stop =>
    rintro D c k W hD hk ⟨rfl, hno, hb, hr, hl⟩ hK
    have hRR := mark_cell hK (hr.cell 0)
    have hLL := mark_cell hK (hl.cell 0)
    have HNO := Lib.hid hno
    have HB2 := Lib.hid (mark_below hb hK (by omega))
    have HR := Lib.hid hRR
    have HL := Lib.hid hLL
    clear hno hb hr hl hRR hLL
    gi_wp2
    rw [HP.out]
    have hRR := HR.out
    have hLL := HL.out
    exact leave_mark (v := .tuple #[.slice none 0 0, .bool false]) hK (by simp [results, Tryd.results10, go_sem, hRR, hLL]) ⟨.inr ⟨HNO.out, rfl⟩, HB2.out⟩
end Go.Proofs.YtbhdibeiojeadaaDoor
