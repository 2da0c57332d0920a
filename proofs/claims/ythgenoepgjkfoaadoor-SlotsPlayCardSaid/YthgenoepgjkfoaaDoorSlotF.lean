/-
  Slots: the law's own list of those that are taken, up to a count.
-/
import Derived.Test.YthgenoepgjkfoaaDoorSlotE
namespace Go.Proofs.YthgenoepgjkfoaaDoor
open Go.RowKit
attribute [local go_sem] Oper.semAt_some
set_option maxRecDepth 100000

theorem info_int11 : (Tryd.prog.info? 3).map (fun i => (i.zero, i.size, i.bytes)) = some (some (.int .i64 0), 1, 8) := by kernel_rfl
theorem same11_written {S : Addr → Prop} {W W' : World} {row : Option Nat} (hg : W.grownBy W' row) (hS : ∀ p, S p → some p.block ≠ row) : Same S W W' :=
  ⟨hg.size, fun p _ hp hv => hg.cell hv (hS p hp)⟩
theorem ko11_below {W W' : World} (h : Below W.heap.size W W') : KeepsOthers W W' := ⟨h.size, fun k _ hk _ => (h.block k (Array.getElem?_eq_some_iff.1 hk).1).trans hk⟩
theorem ko11_owned {W W' : World} {base : Nat} {e : TypeId} {v : Value} {n : Nat} {xs : List Value} (h : W.ownsRow base e 1 v n xs) (hg : W.grownBy W' v.ownBlock) : KeepsOthers W W' :=
  KeepsOthers.of_grownBy hg fun j o hj ho => by
    rcases h.2 with ⟨rfl, _⟩ | ⟨g, cap, cur, rfl, _, hh, _⟩
    · cases hj
    · injection hj with hj
      subst hj
      rw [hh] at ho
      cases ho
      rfl
theorem own11_kept {w w' : World} {base : Nat} {e : TypeId} {v : Value} {n : Nat} {xs : List Value} (h : w.ownsRow base e 1 v n xs) {row : Option Nat} (hg : w.grownBy w' row) (hr : ∀ r, row = some r → ∃ o : Obj, w.heap[r]? = some o ∧ o.isCells = false) : w'.ownsRow base e 1 v n xs := by
  have hlt := h.lt
  obtain ⟨h1, h2⟩ := h
  refine ⟨h1, ?_⟩
  rcases h2 with h2 | ⟨g, cap, cur, rfl, hb, hh, r⟩
  · exact .inl h2
  · refine .inr ⟨g, cap, cur, rfl, hb, ?_, r⟩
    rw [hg.block g (hlt g rfl).2 (fun e => by obtain ⟨o, ho, hc⟩ := hr g e.symm; rw [hh] at ho; cases ho; cases hc)]
    exact hh
theorem own11_base {w : World} {base : Nat} {e : TypeId} {v : Value} {n g : Nat} {xs : List Value} (h : w.ownsRow base e 1 v n xs) (hg : g < base) : v.ownBlock ≠ some g := fun e' => by
  have := (h.lt g e').1
  omega
section
variable {P : Program} (w : World) {F : Fence} {nF : Nat}
/-- One element of one cell is appended to a row of one's own, in a round. -/
theorem wpListIn_append_11 {ops : Array Oper} {rest : List Oper} {o : Oper} {a : Act} {Q : Exit → Act → World → Prop} (hgd : o.guard = none) (s x : Operand) (t : TypeId)
    (ho : o.op = .call { callee := .builtin .append, args := #[s, x], argTypes := #[t, t] })
    (base : Nat) (e : TypeId) (ht : P.underlying t = some (.slice e)) (z : Value) (bt : Nat) (hinfo : (P.info? e).map (fun i => (i.zero, i.size, i.bytes)) = some (some z, 1, bt)) (hzs : z.cells.size = 1)
    (v : Value) (n : Nat) (xs : List Value) (hs : a.eval s = v) (hown : w.ownsRow base e 1 v n xs) (g : Nat) (u : Value) (hx : a.eval x = .slice (some ⟨g, 0, none⟩) 1 1) (hc : w.cell? ⟨g, 0, none⟩ = some u) (hu : u.oneCell' = true)
    (hb : n + 1 ≤ 100000000) (hbt : bt ≤ 1000) (hbase : base ≤ w.heap.size)
    (h : ∀ A' c' w', n + 1 ≤ c' → Hid (w'.ownsRow base e 1 (.slice A' (n + 1) c') (n + 1) (xs ++ [u])) → w.grownBy w' v.ownBlock → wpListIn F nF P ops Q rest (a.put o.dst (.slice A' (n + 1) c')) w') :
    wpListIn F nF P ops Q (o :: rest) a w := by
  cases hi : P.info? e with
  | none => rw [hi] at hinfo; cases hinfo
  | some i =>
    rw [hi] at hinfo
    simp only [Option.map_some, Option.some.injEq, Prod.mk.injEq] at hinfo
    obtain ⟨h1, h2, h3⟩ := hinfo
    refine wpListIn_append_own w hgd s x t ho base e i z 1 bt ht hi h1 h2 h3 hzs (by omega) v n xs hs hown ⟨g, 0, none⟩ 1 1 [u] hx rfl ?_ (by simpa using hu) (by unfold maxLen; omega) ?_ hbase ?_
    · intro j u' hj
      match j, hj with
      | 0, hj =>
        obtain rfl : u = u' := by simpa using hj
        exact hc
      | j + 1, hj => simp at hj
    · have : (n + 1) * bt ≤ 100000000 * 1000 := Nat.mul_le_mul hb hbt
      omega
    · intro v' w' h4 h5 _
      obtain ⟨A', c', rfl, hc'⟩ := ownsRow_form w' h4
      exact h _ _ _ hc' h4 h5
end
theorem ints_take11 {L : List Nat} {k : Nat} (hk : k < L.length) : ints (L.take (k + 1)) = ints (L.take k) ++ [.int .i64 ((nth L k : Nat) : Int)] := by
  rw [List.take_add_one, List.getElem?_eq_getElem hk, ints_append, nth_in hk]
  rfl

/-- A list that one makes: its variable at block O, the elements of L so far. -/
structure RowMem (w : World) (O B : Nat) (xs : List Nat) (W : World) : Prop where
  below : Below w.heap.size w W
  bsz : B ≤ W.heap.size
  row : ∃ A c, Blk W O 22 #[.slice A xs.length c] ∧ W.ownsRow B 3 1 (.slice A xs.length c) xs.length (ints xs)
theorem RowMem.kept {w : World} {O B : Nat} {xs : List Nat} {X Y : World} {row : Option Nat} (h : RowMem w O B xs X) (hg : X.grownBy Y row) {C : Nat} (hC : w.heap.size ≤ C)
    (hr : ∀ r, row = some r → C ≤ r ∧ ∃ o : Obj, X.heap[r]? = some o ∧ o.isCells = false) : RowMem w O B xs Y := by
  obtain ⟨A, c, h1, h2⟩ := h.row
  exact ⟨h.below.grown hg h.below.size (fun r e => by have := (hr r e).1; omega), Nat.le_trans h.bsz hg.size, A, c, blk11_kept h1 hg (fun r e => (hr r e).2), own11_kept h2 hg (fun r e => (hr r e).2)⟩

theorem ints_ty11 : 22 ≠ 3 := by decide
/-- An element is appended, and the row's variable is stored. -/
theorem RowMem.next {w : World} {O B k : Nat} {xs : List Nat} {x : Nat} {A5 : Option Addr} {c5 : Nat} {X Y : World} {A6 : Option Addr} {c6 : Nat} (h : RowMem w O B xs X) (hO : O < B) (hw : w.heap.size ≤ O) (hx : xs.length = k)
    (hb : Blk X O 22 #[.slice A5 k c5]) (hown : X.ownsRow B 3 1 (.slice A5 k c5) k (ints xs))
    (hg : (X.alloc (.cells #[.int .i64 (x : Int)] 3)).grownBy Y (Value.slice A5 k c5).ownBlock) (h6 : Y.ownsRow B 3 1 (.slice A6 (k + 1) c6) (k + 1) (ints xs ++ [.int .i64 (x : Int)])) :
    RowMem w O B (xs ++ [x]) (Y.setCell ⟨O, 0, none⟩ (.slice A6 (k + 1) c6)) ∧ Blk Y O 22 #[.slice A5 k c5] ∧ KeepsOthers X Y ∧ Below B X Y := by
  have hOA := own7_keep hown (b1' X (.cells #[.int .i64 (x : Int)] 3))
  have hsz := hg.size
  rw [World.size_alloc] at hsz
  have hbY := (hb.alloc (.cells #[.int .i64 (x : Int)] 3)).grown hg (fun e => own11_base hOA hO e.symm)
  have hX := h.below
  have hBX := h.bsz
  have hxy : Below B X Y := ((b1' X _).mono hBX).grown hg (by simp; omega) (fun r hr => (World.ownsRow.lt hOA r hr).1)
  have hz : (Y.setCell ⟨O, 0, none⟩ (.slice A6 (k + 1) c6)).heap.size = Y.heap.size := by simp [World.setCell]
  refine ⟨⟨(hX.trans (hxy.mono (by omega))).setCell hw _, by rw [hz]; omega, A6, c6, ?_, ?_⟩, hbY, (ko11_below (b1' X _)).trans (ko11_owned hOA hg), hxy⟩
  · have h1 := hbY.set_ 0 (.slice A6 (k + 1) c6)
    rw [List.length_append, hx]
    exact h1
  · rw [List.length_append, hx, ints_append]
    exact own7_far h6 (grownBy_setCell' Y O _) (own11_base h6 hO)

/-- What list says. -/
def RetI (w : World) (xs : List Nat) (e : Ending) (w' : World) : Prop := ∃ A c, e = .returned (.slice A xs.length c) ∧ w'.ownsRow w.heap.size 3 1 (.slice A xs.length c) xs.length (ints xs) ∧ Below w.heap.size w w'

set_option maxHeartbeats 4000000 in
theorem list11_any {v : Value} {L : List Nat} {most : Nat} (w : World) (h : Seq11 v L w) (hT : Tab11 w) (hT0 : 0 < w.heap.size) (hmost : most ≤ 4097) :
    Calls Tryd.prog 14 #[v, .int .i64 (most : Int)] w (RetI w (L.take most)) := by
  have hll := h.len
  have HA := Lib.hid (fun W S hS => allF11_at v h.form W S hS)
  have HS := Lib.hid h
  have HT := Lib.hid hT
  clear h hT
  have HP : Hid (RetI w (L.take most) = fun e w' => ∃ A c, e = .returned (.slice A (L.take most).length c) ∧ w'.ownsRow w.heap.size 3 1 (.slice A (L.take most).length c) (L.take most).length (ints (L.take most)) ∧ Below w.heap.size w w') := Lib.hid rfl
  refine calls_of_leave Tryd.func14 rfl ?_
  simp only [Tryd.ntmps14, List.size_toArray, List.length_cons, List.length_nil, Nat.reduceAdd, Nat.reduceSub, Array.replicate_succ, Array.replicate_zero, List.push_toArray, List.append_toArray, List.nil_append, List.cons_append]
  go_wp2_with fail
  refine (HA.out _ (w.heap.size + 1 + 1) (by simp)).mono ?_
  rintro e W0 ⟨rfl, hW0⟩
  have hsz0 : W0.heap.size = w.heap.size + 1 + 1 + 1 := by rw [hW0]; simp
  have f1 : Blk W0 w.heap.size 3 #[.int .i64 (most : Int)] := by rw [hW0]; exact ((Blk.new w _ _).alloc _).alloc _
  have f3 : Blk W0 (w.heap.size + 1) 22 #[.slice none 0 0] := by
    rw [hW0]
    have h2 := (Blk.new (w.alloc (.cells #[.int .i64 (most : Int)] 3)) 22 #[.slice none 0 0]).alloc (.cells #[v] 24)
    rw [show (w.alloc (.cells #[.int .i64 (most : Int)] 3)).heap.size = w.heap.size + 1 by simp] at h2
    exact h2
  have f2 : W0.cell? ⟨w.heap.size + 1 + 1, 0, none⟩ = some v := by
    rw [hW0]
    have h2 := (Blk.new ((w.alloc (.cells #[.int .i64 (most : Int)] 3)).alloc (.cells #[.slice none 0 0] 22)) 24 #[v]).cell 0
    rw [show ((w.alloc (.cells #[.int .i64 (most : Int)] 3)).alloc (.cells #[.slice none 0 0] 22)).heap.size = w.heap.size + 1 + 1 by simp] at h2
    exact h2
  have hB0 : Below w.heap.size w W0 := by rw [hW0]; exact ((b1' w _).trans ((b1' _ _).mono (by simp))).trans ((b1' _ _).mono (by simp; omega))
  have hgo := (HS.out.below hB0).goes f2 (HT.out.below hB0 hT0) (by omega)
  have HI0 : Hid (RowMem w (w.heap.size + 1) (w.heap.size + 3) [] W0) := Lib.hid ⟨hB0, by omega, none, 0, f3, World.ownsRow_nil _ _ _ _⟩
  have HM0 := Lib.hid f1
  clear f1 f2 f3 hB0 hW0
  go_wp2_with fail
  refine (wpIn_wide (n := 5)).1 ?_
  refine wpIn_rangeFunc_goes rfl (by omega) (gf := 21) (lb := #[.pointer (some ⟨w.heap.size + 1 + 1, 0, none⟩)]) rfl trivial (enters_of Tryd.func21 (by kernel_rfl) rfl)
    hgo (fun k p hp => by show p.block < W0.heap.size; rw [show p.block = 0 from hp]; omega) (Below.refl _ _) (fun _ => rfl)
    (fun k W => RowMem w (w.heap.size + 1) (w.heap.size + 3) (L.take k) W ∧ Blk W w.heap.size 3 #[.int .i64 (most : Int)] ∧ k ≤ most)
    (fun c k W => c = .exit 0 ∧ k = most ∧ RowMem w (w.heap.size + 1) (w.heap.size + 3) (L.take k) W)
    (fun s X Y row hs hg hr => ⟨hs.1.kept hg (by omega) hr, blk11_kept hs.2.1 hg (fun r e => (hr r e).2), hs.2.2⟩)
    (fun c s X Y row hs hg hr => ⟨hs.1, hs.2.1, hs.2.2.kept hg (by omega) hr⟩)
    ⟨HI0.out, HM0.out, Nat.zero_le _⟩ ?round ?done ?stop
  case round =>
    intro l k W hk _
    simp only [ienc]
    gi_wp2
    refine ⟨trivial, ?_⟩
    rintro Wb ⟨hm, hmb, hkm⟩
    obtain ⟨A5, c5, hb5, hown5⟩ := hm.row
    have hlk : (L.take k).length = k := by rw [List.length_take]; omega
    rw [hlk] at hb5 hown5
    have c1 := hb5.cell 0
    have f1 := hb5.frozen 0
    have c2 := hmb.cell 0
    have HM := Lib.hid hm
    have HMB := Lib.hid hmb
    have HB5 := Lib.hid hb5
    have HO5 := Lib.hid hown5
    have HBS := hm.bsz
    have HNX := Lib.hid (ints_take11 hk)
    obtain ⟨x, hx⟩ : ∃ x, nth L k = x := ⟨_, rfl⟩
    have HX := Lib.hid hx
    rw [hx] at HNX ⊢
    clear hm hmb hb5 hown5 hlk hx
    by_cases hke : k = most
    · subst hke
      gi_wp2_with fail
      exact ⟨(KeepsOthers.refl _).from _, rfl, rfl, HM.out⟩
    · have hne : ¬ (k : Int) = (most : Int) := by omega
      gi_wp2_with (gi_at_builtin; refine wpListIn_append_11 _ rfl (.tmp 14) (.tmp 16) 22 rfl (w.heap.size + 3) 3 Tryd.underlying22 (.int .i64 0) 8 info_int11 rfl (.slice A5 k c5) k _ rfl (own7_keep HO5.out (b1' _ _)) _ (.int .i64 (x : Int)) rfl ((Blk.new _ _ _).cell 0) rfl (by omega) (by omega) (by simp; omega) ?_)
      intro A6 c6 W6 hc6 h6 hg6
      obtain ⟨hn1, hn2, hn3, hn4⟩ := HM.out.next (by omega) (by omega) (by rw [List.length_take]; omega) HB5.out HO5.out hg6 h6.out
      have c6' := hn2.cell 0
      have f6' := hn2.frozen 0
      have HN1 := Lib.hid hn1
      have HN2 := Lib.hid hn2
      have HN3 := Lib.hid hn3
      have HN4 := Lib.hid hn4
      have HSM : Hid (Same (keep11 k) Wb W6) := Lib.hid (Same.of_below hn4 (fun p hp => by rw [show p.block = 0 from hp]; omega))
      have HTK : Hid (L.take (k + 1) = L.take k ++ [x]) := Lib.hid (by rw [List.take_add_one, List.getElem?_eq_getElem hk]; have := HX.out; rw [nth_in hk] at this; rw [this]; rfl)
      clear hn1 hn2 hn3 hn4 h6 hg6
      gi_wp2_with fail
      refine ⟨(HN3.out.trans (KeepsOthers.setCell _ _ _)).from _, HSM.out.trans (Same.setCell (fun p hp e => ?_) _), ?_, (HMB.out.below HN4.out (by omega)).far (by simp) _, by omega⟩
      · rw [show p.block = 0 from hp] at e
        simp only at e
        omega
      · rw [HTK.out]
        exact HN1.out
  case done =>
    rintro D W hD ⟨hm, _, hle⟩ hK
    rw [List.take_length] at hm
    have hLT : L.take most = L := List.take_of_length_le hle
    obtain ⟨A5, c5, hb5, hown5⟩ := hm.row
    have c1 := hb5.cell 0
    have HB := Lib.hid (mark_below hm.below hK (by omega))
    have HO := Lib.hid (own11_kept hown5 (grownBy_putObj' _ D (.deferred none)) (fun r e => by cases e; exact ⟨_, hK, rfl⟩))
    have HK := Lib.hid hK
    have HL := Lib.hid hLT
    clear hm hK hb5 hown5 hLT
    go_wp2_with fail
    rw [HP.out]
    exact leave_mark (v := .slice A5 L.length c5) HK.out (by simp [results, Tryd.results14, go_sem]) ⟨A5, c5, by rw [HL.out], by rw [HL.out]; exact own7_base HO.out (by omega), HB.out⟩
  case stop =>
    rintro D c k W hD hk ⟨rfl, hke, hm⟩ hK
    rw [hke] at hm
    obtain ⟨A5, c5, hb5, hown5⟩ := hm.row
    have c1 := hb5.cell 0
    have HB := Lib.hid (mark_below hm.below hK (by omega))
    have HO := Lib.hid (own11_kept hown5 (grownBy_putObj' _ D (.deferred none)) (fun r e => by cases e; exact ⟨_, hK, rfl⟩))
    have HK := Lib.hid hK
    obtain ⟨m, hm3⟩ : ∃ m, (L.take most).length = m := ⟨_, rfl⟩
    rw [hm3] at hb5 hown5 c1 HO HP
    clear hm hK hb5 hown5 hm3
    gi_wp2_with fail
    go_wp2_with fail
    rw [HP.out]
    exact leave_mark (v := .slice A5 m c5) HK.out (by simp [results, Tryd.results14, go_sem]) ⟨A5, c5, rfl, own7_base HO.out (by omega), HB.out⟩
end Go.Proofs.YthgenoepgjkfoaaDoor
