/-
  Slots: the law's own 'twice': those that are taken, gone through twice, the first one given back meanwhile.
-/
import Derived.Test.YthgenoepgjkfoaaDoorSlotF
namespace Go.Proofs.YthgenoepgjkfoaaDoor
open Go.RowKit
attribute [local go_sem] Oper.semAt_some
set_option maxRecDepth 100000

/-- None is taken, or there is a first one, and the others are those without it. -/
theorem first11 (T : Nat → Bool) (n : Nat) : all11 T n = [] ∨ ∃ c, T c = true ∧ all11 T n = c :: all11 (turn11 T c false) n := by
  rcases free11_or (fun j => !T j) n with ⟨c, h1, h2, h3⟩ | h
  · right
    have hc : T c = true := by simpa using h2
    refine ⟨c, hc, ?_⟩
    unfold all11
    rw [filter_first T c hc (fun k hk => by simpa using h3 k hk) n h1]
    congr 1
    refine List.filter_congr (fun j _ => ?_)
    unfold turn11
    by_cases e : j = c
    · simp [e]
    · simp [e]
  · left
    exact List.filter_eq_nil_iff.2 (fun j hj => by have := h j (List.mem_range.1 hj); simpa using this)

/-- A list that one makes: its variable at block O, its elements so far; the row lies from B on. -/
structure RowAt (O B : Nat) (xs : List Nat) (W : World) : Prop where
  bsz : B ≤ W.heap.size
  row : ∃ A c, Blk W O 22 #[.slice A xs.length c] ∧ W.ownsRow B 3 1 (.slice A xs.length c) xs.length (ints xs)
theorem RowAt.kept {O B : Nat} {xs : List Nat} {X Y : World} {row : Option Nat} (h : RowAt O B xs X) (hg : X.grownBy Y row)
    (hr : ∀ r, row = some r → ∃ o : Obj, X.heap[r]? = some o ∧ o.isCells = false) : RowAt O B xs Y := by
  obtain ⟨A, c, h1, h2⟩ := h.row
  exact ⟨Nat.le_trans h.bsz hg.size, A, c, blk11_kept h1 hg hr, own11_kept h2 hg hr⟩
theorem RowAt.far {O B : Nat} {xs : List Nat} {X Y : World} {g : Nat} {t : TypeId} {cs : Array Value} (h : RowAt O B xs X) (hg : X.grownBy Y (some g)) (hO : O ≠ g) (hb : Blk X g t cs) (ht : t ≠ 3) : RowAt O B xs Y := by
  obtain ⟨A, c, h1, h2⟩ := h.row
  exact ⟨Nat.le_trans h.bsz hg.size, A, c, h1.grown hg (by simpa using hO), own7_far h2 hg (own7_ne h2 hb ht)⟩
theorem RowAt.next {O B k : Nat} {xs : List Nat} {x : Nat} {A5 : Option Addr} {c5 : Nat} {X Y : World} {A6 : Option Addr} {c6 : Nat} (h : RowAt O B xs X) (hO : O < B) (hx : xs.length = k)
    (hb : Blk X O 22 #[.slice A5 k c5]) (hown : X.ownsRow B 3 1 (.slice A5 k c5) k (ints xs))
    (hg : (X.alloc (.cells #[.int .i64 (x : Int)] 3)).grownBy Y (Value.slice A5 k c5).ownBlock) (h6 : Y.ownsRow B 3 1 (.slice A6 (k + 1) c6) (k + 1) (ints xs ++ [.int .i64 (x : Int)])) :
    RowAt O B (xs ++ [x]) (Y.setCell ⟨O, 0, none⟩ (.slice A6 (k + 1) c6)) ∧ Blk Y O 22 #[.slice A5 k c5] ∧ KeepsOthers X Y ∧ Below B X Y := by
  have hOA := own7_keep hown (b1' X (.cells #[.int .i64 (x : Int)] 3))
  have hsz := hg.size
  rw [World.size_alloc] at hsz
  have hbY := (hb.alloc (.cells #[.int .i64 (x : Int)] 3)).grown hg (fun e => own11_base hOA hO e.symm)
  have hBX := h.bsz
  have hxy : Below B X Y := ((b1' X _).mono hBX).grown hg (by simp; omega) (fun r hr => (World.ownsRow.lt hOA r hr).1)
  have hz : (Y.setCell ⟨O, 0, none⟩ (.slice A6 (k + 1) c6)).heap.size = Y.heap.size := by simp [World.setCell]
  refine ⟨⟨by rw [hz]; omega, A6, c6, ?_, ?_⟩, hbY, (ko11_below (b1' X _)).trans (ko11_owned hOA hg), hxy⟩
  · have h1 := hbY.set_ 0 (.slice A6 (k + 1) c6)
    rw [List.length_append, hx]
    exact h1
  · rw [List.length_append, hx, ints_append]
    exact own7_far h6 (grownBy_setCell' Y O _) (own11_base h6 hO)
/-- All that was there stays, but for block g. -/
theorem grown11_below {g B : Nat} {w X Y : World} (h : w.grownBy X (some g)) (hb : Below B X Y) (hB : w.heap.size ≤ B) : w.grownBy Y (some g) :=
  ⟨hb.os.trans h.os, hb.tape.trans h.tape, hb.output.trans h.output, Nat.le_trans h.size hb.size, fun k hk hne => (hb.block k (by omega)).trans (h.block k hk hne)⟩
theorem grown11_set {g O : Nat} {w X : World} (h : w.grownBy X (some g)) (hO : w.heap.size ≤ O) (i : Nat) (u : Value) : w.grownBy (X.setCell ⟨O, i, none⟩ u) (some g) :=
  ⟨h.os, h.tape, h.output, by rw [show (X.setCell ⟨O, i, none⟩ u).heap.size = X.heap.size by simp [World.setCell]]; exact h.size, fun k hk hne => (Below.heap_setCell X ⟨O, i, none⟩ u k (by show k ≠ O; omega)).trans (h.block k hk hne)⟩
theorem grown11_kept {g : Nat} {w X Y : World} {row : Option Nat} (h : w.grownBy X (some g)) (hg : X.grownBy Y row) (hr : ∀ r, row = some r → w.heap.size ≤ r) : w.grownBy Y (some g) :=
  ⟨hg.os.trans h.os, hg.tape.trans h.tape, hg.output.trans h.output, Nat.le_trans h.size hg.size, fun k hk hne => (hg.block k (Nat.lt_of_lt_of_le hk h.size) (fun e => by have := hr k e.symm; omega)).trans (h.block k hk hne)⟩
theorem sl11_type {w : World} {g n : Nat} {T : Nat → Bool} (h : Sl w g n T) : ∃ cs, Blk w g 45 cs := by
  obtain ⟨S, ⟨cs, h1, _⟩, _⟩ := h
  exact ⟨cs, h1⟩
theorem sl11_kept {w w' : World} {g n : Nat} {T : Nat → Bool} {row : Option Nat} (h : Sl w g n T) (hg : w.grownBy w' row) (hr : ∀ r, row = some r → ∃ o : Obj, w.heap[r]? = some o ∧ o.isCells = false) : Sl w' g n T := by
  obtain ⟨cs, hb⟩ := sl11_type h
  refine h.grown hg (fun e => ?_)
  obtain ⟨o, ho, hc⟩ := hr g e.symm
  rw [show w.heap[g]? = _ from hb] at ho
  cases ho
  cases hc
theorem ko11_sl {w w' : World} {g n : Nat} {T : Nat → Bool} (h : Sl w g n T) (hg : w.grownBy w' (some g)) : KeepsOthers w w' := by
  obtain ⟨cs, hb⟩ := sl11_type h
  refine KeepsOthers.of_grownBy hg (fun j o hj ho => ?_)
  injection hj with hj
  subst hj
  rw [show w.heap[g]? = _ from hb] at ho
  cases ho
  rfl
theorem tab11_grown {g : Nat} {w w' : World} (h : Tab11 w) (hg : w.grownBy w' (some g)) (hne : 0 ≠ g) : Tab11 w' := fun j hj => hg.cell (h j hj) (by simpa using hne)
theorem slots_int11 : 45 ≠ 3 := by decide
theorem take_next11 {L : List Nat} {k x : Nat} (hk : k < L.length) (hx : nth L k = x) : L.take (k + 1) = L.take k ++ [x] := by
  rw [List.take_add_one, List.getElem?_eq_getElem hk]
  rw [nth_in hk] at hx
  rw [hx]
  rfl
/-- A function is left that has gone through two iterators. -/
theorem leave_mark2 {P : Program} {fn : Func} {R : Ending → World → Prop} {tmps : Array Value} {D E : Nat} {W : World} {v : Value} (hD : W.heap[D]? = some (.deferred (some []))) (hE : (W.putObj D (.deferred none)).heap[E]? = some (.deferred (some [])))
    (hv : (results fn tmps).run P ((W.putObj D (.deferred none)).putObj E (.deferred none)) = .ok v ((W.putObj D (.deferred none)).putObj E (.deferred none))) (hR : R (.returned v) ((W.putObj D (.deferred none)).putObj E (.deferred none))) :
    leavePost P fn R .ret { tmps := tmps, defers := [{ target := .collected D, args := #[] }, { target := .collected E, args := #[] }] } W :=
  ⟨by simp, .inl ⟨_, _, rfl, run_takeDeferred hD, ⟨by simp, .inl ⟨_, _, rfl, run_takeDeferred hE, _, hv, hR⟩⟩⟩⟩
/-- What is between two rounds of the first loop. -/
structure TwA (w : World) (g n : Nat) (T : Nat → Bool) (xs : List Nat) (W : World) : Prop where
  grown : w.grownBy W (some g)
  sl : Sl W g n T
  row : RowAt (w.heap.size + 1) (w.heap.size + 4) xs W
  ptr : Blk W w.heap.size 24 #[.pointer (some ⟨g, 0, none⟩)]
  seq : Blk W (w.heap.size + 3) 24 #[.pointer (some ⟨g, 0, none⟩)]
  other : Blk W (w.heap.size + 2) 22 #[.slice none 0 0]
theorem TwA.kept {w : World} {g n : Nat} {T : Nat → Bool} {xs : List Nat} {X Y : World} {row : Option Nat} (h : TwA w g n T xs X) (hg : X.grownBy Y row) {C : Nat} (hC : w.heap.size ≤ C)
    (hr : ∀ r, row = some r → C ≤ r ∧ ∃ o : Obj, X.heap[r]? = some o ∧ o.isCells = false) : TwA w g n T xs Y := by
  have hr2 : ∀ r, row = some r → ∃ o : Obj, X.heap[r]? = some o ∧ o.isCells = false := fun r e => (hr r e).2
  exact ⟨grown11_kept h.grown hg (fun r e => by have := (hr r e).1; omega), sl11_kept h.sl hg hr2, h.row.kept hg hr2, blk11_kept h.ptr hg hr2, blk11_kept h.seq hg hr2, blk11_kept h.other hg hr2⟩
/-- What is between two rounds of the second. -/
structure TwB (w : World) (g n D B2 : Nat) (T : Nat → Bool) (va : Value) (na : Nat) (L xs : List Nat) (W : World) : Prop where
  grown : w.grownBy W (some g)
  sl : Sl W g n T
  aown : W.ownsRow (w.heap.size + 4) 3 1 va na (ints L)
  abelow : ∀ j, va.ownBlock = some j → j < B2
  avar : Blk W (w.heap.size + 1) 22 #[va]
  row : RowAt (w.heap.size + 2) B2 xs W
  mark : W.heap[D]? = some (.deferred (some []))
theorem TwB.kept {w : World} {g n D B2 : Nat} {T : Nat → Bool} {va : Value} {na : Nat} {L xs : List Nat} {X Y : World} {row : Option Nat} (h : TwB w g n D B2 T va na L xs X) (hg : X.grownBy Y row) {C : Nat} (hC : w.heap.size ≤ C) (hD : D < C)
    (hr : ∀ r, row = some r → C ≤ r ∧ ∃ o : Obj, X.heap[r]? = some o ∧ o.isCells = false) : TwB w g n D B2 T va na L xs Y := by
  have hr2 : ∀ r, row = some r → ∃ o : Obj, X.heap[r]? = some o ∧ o.isCells = false := fun r e => (hr r e).2
  exact ⟨grown11_kept h.grown hg (fun r e => by have := (hr r e).1; omega), sl11_kept h.sl hg hr2, own11_kept h.aown hg hr2, h.abelow, blk11_kept h.avar hg hr2, h.row.kept hg hr2,
    (hg.block D (Array.getElem?_eq_some_iff.1 h.mark).1 (fun e => by have := (hr D e.symm).1; omega)).trans h.mark⟩
theorem own11_low {w w' : World} {B base : Nat} {e : TypeId} {v : Value} {n : Nat} {xs : List Value} (h : w.ownsRow base e 1 v n xs) (hb : Below B w w') (hlt : ∀ j, v.ownBlock = some j → j < B) : w'.ownsRow base e 1 v n xs := by
  obtain ⟨h1, h2⟩ := h
  refine ⟨h1, ?_⟩
  rcases h2 with h2 | ⟨g, cap, cur, rfl, hg, hh, r⟩
  · exact .inl h2
  · exact .inr ⟨g, cap, cur, rfl, hg, by rw [hb.block g (hlt g rfl)]; exact hh, r⟩

theorem Sl.below11 {w w' : World} {g n B : Nat} {T : Nat → Bool} (h : Sl w g n T) (hb : Below B w w') (hg : g < B) : Sl w' g n T := by
  obtain ⟨S, ⟨cs, h1, h2⟩, h3⟩ := h
  exact ⟨S, ⟨cs, h1.below hb hg, h2⟩, h3⟩
/-- The places before and behind the first round. -/
def at11 (T : Nat → Bool) (c k : Nat) : Nat → Bool := if k = 0 then T else turn11 T c false

set_option maxHeartbeats 8000000 in
theorem twice11_any {g n : Nat} {T : Nat → Bool} {L : List Nat} (w : World) (h : Sl w g n T) (hT : Tab11 w) (hT0 : 0 < w.heap.size) (hg0 : 0 ≠ g) (hL : all11 T n = L) :
    Calls Tryd.prog 16 #[.pointer (some ⟨g, 0, none⟩)] w fun e w' => ∃ A c A2 c2, e = .returned (.tuple #[.slice A L.length c, .slice A2 (L.drop 1).length c2]) ∧
      w'.ownsRow w.heap.size 3 1 (.slice A L.length c) L.length (ints L) ∧ w'.ownsRow w.heap.size 3 1 (.slice A2 (L.drop 1).length c2) (L.drop 1).length (ints (L.drop 1)) ∧ w.grownBy w' (some g) := by
  have hll : L.length ≤ 4096 := by rw [← hL]; exact Nat.le_trans (all11_len T n) h.many
  have hgw := h.lt
  obtain ⟨f0, hf0⟩ : ∃ f0, nth L 0 = f0 := ⟨_, rfl⟩
  have HFI : Hid (0 < L.length → T f0 = true) := Lib.hid (fun hl => by
    rcases first11 T n with h1 | ⟨c, h1, h2⟩
    · rw [hL] at h1; rw [h1] at hl; simp at hl
    · rw [hL] at h2
      rw [← hf0, h2, nth_cons0]
      exact h1)
  have HEND : Hid (all11 (at11 T f0 L.length) n = L.drop 1) := Lib.hid (by
    rcases first11 T n with h1 | ⟨c, h1, h2⟩
    · rw [hL] at h1
      subst h1
      exact hL
    · rw [hL] at h2
      have e : f0 = c := by rw [← hf0, h2, nth_cons0]
      rw [h2, e]
      rfl)
  have hl2 : (L.drop 1).length ≤ 4096 := by rw [List.length_drop]; omega
  obtain ⟨L2, hL2⟩ : ∃ L2, L.drop 1 = L2 := ⟨_, rfl⟩
  rw [hL2] at HEND hl2 ⊢
  clear hL2
  have HA := Lib.hid (fun W S hS => allF11_at (.pointer (some ⟨g, 0, none⟩)) (.inr ⟨g, rfl⟩) W S hS)
  have HS := Lib.hid h
  have HT := Lib.hid hT
  have HL := Lib.hid hL
  have HF0 := Lib.hid hf0
  clear h hT hL hf0
  refine calls_of_leave Tryd.func16 rfl ?_
  simp only [Tryd.ntmps16, List.size_toArray, List.length_cons, List.length_nil, Nat.reduceAdd, Nat.reduceSub, Array.replicate_succ, Array.replicate_zero, List.push_toArray, List.append_toArray, List.nil_append, List.cons_append]
  go_wp2_with fail
  refine (HA.out _ (w.heap.size + 3) (by simp)).mono ?_
  rintro e W0 ⟨rfl, hW0⟩
  have hsz0 : W0.heap.size = w.heap.size + 4 := by rw [hW0]; simp
  have f0' : Blk W0 w.heap.size 24 #[.pointer (some ⟨g, 0, none⟩)] := by rw [hW0]; exact (((Blk.new w _ _).alloc _).alloc _).alloc _
  have f1 : Blk W0 (w.heap.size + 1) 22 #[.slice none 0 0] := by
    rw [hW0]
    have h2 := ((Blk.new (w.alloc (.cells #[.pointer (some ⟨g, 0, none⟩)] 24)) 22 #[.slice none 0 0]).alloc (.cells #[.slice none 0 0] 22)).alloc (.cells #[.pointer (some ⟨g, 0, none⟩)] 24)
    rw [show (w.alloc (.cells #[.pointer (some ⟨g, 0, none⟩)] 24)).heap.size = w.heap.size + 1 by simp] at h2
    exact h2
  have f2 : Blk W0 (w.heap.size + 2) 22 #[.slice none 0 0] := by
    rw [hW0]
    have h2 := (Blk.new ((w.alloc (.cells #[.pointer (some ⟨g, 0, none⟩)] 24)).alloc (.cells #[.slice none 0 0] 22)) 22 #[.slice none 0 0]).alloc (.cells #[.pointer (some ⟨g, 0, none⟩)] 24)
    rw [show ((w.alloc (.cells #[.pointer (some ⟨g, 0, none⟩)] 24)).alloc (.cells #[.slice none 0 0] 22)).heap.size = w.heap.size + 2 by simp] at h2
    exact h2
  have f3 : Blk W0 (w.heap.size + 3) 24 #[.pointer (some ⟨g, 0, none⟩)] := by
    rw [hW0]
    have h2 := Blk.new (((w.alloc (.cells #[.pointer (some ⟨g, 0, none⟩)] 24)).alloc (.cells #[.slice none 0 0] 22)).alloc (.cells #[.slice none 0 0] 22)) 24 #[.pointer (some ⟨g, 0, none⟩)]
    rw [show (((w.alloc (.cells #[.pointer (some ⟨g, 0, none⟩)] 24)).alloc (.cells #[.slice none 0 0] 22)).alloc (.cells #[.slice none 0 0] 22)).heap.size = w.heap.size + 3 by simp] at h2
    exact h2
  have hB0 : Below w.heap.size w W0 := by rw [hW0]; exact (((b1' w _).trans ((b1' _ _).mono (by simp))).trans ((b1' _ _).mono (by simp; omega))).trans ((b1' _ _).mono (by simp; omega))
  have hgo := goes11 (sb := w.heap.size + 3) W0 (f3.cell 0) (HS.out.below hB0) (HT.out.below hB0 hT0) (by omega)
  rw [HL.out] at hgo
  have HI0 : Hid (TwA w g n (at11 T f0 0) [] W0) := Lib.hid ⟨⟨hB0.os, hB0.tape, hB0.output, hB0.size, fun k hk _ => hB0.block k hk⟩, HS.out.below hB0, ⟨by omega, none, 0, f1, World.ownsRow_nil _ _ _ _⟩, f0', f3, f2⟩
  clear f0' f1 f2 f3 hB0 hW0
  go_wp2_with fail
  refine (wpIn_wide (n := 5)).1 ?_
  refine wpIn_rangeFunc_goes rfl (by omega) (gf := 21) (lb := #[.pointer (some ⟨w.heap.size + 3, 0, none⟩)]) rfl trivial (enters_of Tryd.func21 (by kernel_rfl) rfl)
    hgo (fun k p hp => by show p.block < W0.heap.size; rw [show p.block = 0 from hp]; omega) (Below.refl _ _) (fun _ => rfl)
    (fun k W => TwA w g n (at11 T f0 k) (L.take k) W)
    (fun _ _ _ => False)
    (fun s X Y row hs hg hr => hs.kept hg (by omega) hr)
    (fun c s X Y row hs hg hr => hs.elim)
    HI0.out ?round ?done ?stop
  case round =>
    intro l k W hk _
    simp only [ienc]
    gi_wp2
    refine ⟨trivial, ?_⟩
    rintro Wb hm0
    have hlk : (L.take k).length = k := by rw [List.length_take]; omega
    obtain ⟨x, hx⟩ : ∃ x, nth L k = x := ⟨_, rfl⟩
    have HX := Lib.hid hx
    rw [hx]
    have cp0 := hm0.ptr.cell 0
    obtain ⟨A5, c5, hb0, hown0⟩ := hm0.row.row
    rw [hlk] at hb0 hown0
    have c00 := hb0.cell 0
    have f00 := hb0.frozen 0
    by_cases hk0 : k = 0
    · have hxf : x = f0 := by rw [← hx, ← HF0.out, hk0]
      have hgive := give11_yes (i := x) Wb (by have := hm0.sl; rw [show at11 T f0 k = T by unfold at11; rw [if_pos hk0]] at this; exact this) (by rw [hxf]; exact HFI.out (by omega))
      have HGV := Lib.hid (CallsIn.inRound l (callsIn_wide (n := 2).2 hgive))
      have hki : (k : Int) = 0 := by omega
      have HTK : Hid (at11 T f0 (k + 1) = turn11 T x false) := Lib.hid (by unfold at11; rw [if_neg (by omega), hxf])
      have HM0 := Lib.hid hm0
      have HB0 := Lib.hid hb0
      have HO0 := Lib.hid hown0
      have HK0 := Lib.hid hk0
      clear hgive hm0 hb0 hown0 hlk hx hk0 hxf
      gi_wp2_with fail
      refine ⟨trivial, ?_⟩
      refine HGV.out.mono ?_
      rintro e WX ⟨rfl, hsl, hgr⟩
      obtain ⟨cs, hcs⟩ := sl11_type HM0.out.sl
      have hm : TwA w g n (turn11 T x false) (L.take k) WX := ⟨HM0.out.grown.trans hgr, hsl, HM0.out.row.far hgr (by omega) hcs slots_int11, HM0.out.ptr.grown hgr (by simp; omega), HM0.out.seq.grown hgr (by simp; omega), HM0.out.other.grown hgr (by simp; omega)⟩
      have hb5 : Blk WX (w.heap.size + 1) 22 #[.slice A5 k c5] := HB0.out.grown hgr (by simp; omega)
      have hown5 : WX.ownsRow (w.heap.size + 4) 3 1 (.slice A5 k c5) k (ints (L.take k)) := own7_far HO0.out hgr (own7_ne HO0.out hcs slots_int11)
      have HKO := Lib.hid (ko11_sl HM0.out.sl hgr)
      have HSAME : Hid (Same (keep11 k) Wb WX) := Lib.hid (same11_written hgr (fun p hp => by rw [show p.block = 0 from hp]; simpa using hg0))
      clear hsl hgr hcs c00 f00 cp0 hki
      have c1 := hb5.cell 0
      have f1 := hb5.frozen 0
      have HM := Lib.hid hm
      have HB5 := Lib.hid hb5
      have HO5 := Lib.hid hown5
      clear hm hb5 hown5
      gi_wp2_with (gi_at_builtin; refine wpListIn_append_11 _ rfl (.tmp 19) (.tmp 21) 22 rfl (w.heap.size + 4) 3 Tryd.underlying22 (.int .i64 0) 8 info_int11 rfl (.slice A5 k c5) k _ rfl (own7_keep HO5.out (b1' _ _)) _ (.int .i64 (x : Int)) rfl ((Blk.new _ _ _).cell 0) rfl (by omega) (by omega) (by have := HM.out.row.bsz; simp; omega) ?_)
      intro A6 c6 W6 hc6 h6 hg6
      obtain ⟨hn1, hn2, hn3, hn4⟩ := HM.out.row.next (by omega) (by rw [List.length_take]; omega) HB5.out HO5.out hg6 h6.out
      have c6' := hn2.cell 0
      have f6' := hn2.frozen 0
      have HN1 := Lib.hid hn1
      have HN2 := Lib.hid hn2
      have HN3 := Lib.hid hn3
      have HN4 := Lib.hid hn4
      have HSM : Hid (Same (keep11 k) WX W6) := Lib.hid (Same.of_below hn4 (fun p hp => by rw [show p.block = 0 from hp]; omega))
      have hgt : ¬ (4096 : Int) < (k : Int) + 1 := by omega
      clear hn1 hn2 hn3 hn4 h6 hg6
      gi_wp2_with fail
      refine ⟨(HKO.out.trans (HN3.out.trans (KeepsOthers.setCell _ _ _))).from _, HSAME.out.trans (HSM.out.trans (Same.setCell (fun p hp e => ?_) _)), ?_⟩
      · rw [show p.block = 0 from hp] at e
        simp only at e
        omega
      · show TwA w g n (at11 T f0 (k + 1)) (L.take (k + 1)) _
        rw [take_next11 hk HX.out, HTK.out]
        exact ⟨grown11_set (grown11_below HM.out.grown HN4.out (by omega)) (by omega) _ _, (HM.out.sl.below11 HN4.out (by omega)).grown (grownBy_setCell' _ _ _) (by simp; omega), HN1.out, (HM.out.ptr.below HN4.out (by omega)).far (by simp) _, (HM.out.seq.below HN4.out (by omega)).far (by simp) _, (HM.out.other.below HN4.out (by omega)).far (by simp) _⟩
    · have hki : ¬ (k : Int) = 0 := by omega
      have HTK : Hid (at11 T f0 (k + 1) = at11 T f0 k) := Lib.hid (by unfold at11; rw [if_neg (by omega), if_neg hk0])
      obtain ⟨WX, hWX⟩ : ∃ WX, Wb = WX := ⟨_, rfl⟩
      subst hWX
      have hm := hm0
      have hb5 := hb0
      have hown5 := hown0
      have HKO := Lib.hid (KeepsOthers.refl Wb)
      have HSAME : Hid (Same (keep11 k) Wb Wb) := Lib.hid (Same.refl _ _)
      clear hm0 hb0 hown0 hlk hx c00 f00
      have c1 := hb5.cell 0
      have f1 := hb5.frozen 0
      have HM := Lib.hid hm
      have HB5 := Lib.hid hb5
      have HO5 := Lib.hid hown5
      clear hm hb5 hown5
      gi_wp2_with (gi_at_builtin; refine wpListIn_append_11 _ rfl (.tmp 19) (.tmp 21) 22 rfl (w.heap.size + 4) 3 Tryd.underlying22 (.int .i64 0) 8 info_int11 rfl (.slice A5 k c5) k _ rfl (own7_keep HO5.out (b1' _ _)) _ (.int .i64 (x : Int)) rfl ((Blk.new _ _ _).cell 0) rfl (by omega) (by omega) (by have := HM.out.row.bsz; simp; omega) ?_)
      intro A6 c6 W6 hc6 h6 hg6
      obtain ⟨hn1, hn2, hn3, hn4⟩ := HM.out.row.next (by omega) (by rw [List.length_take]; omega) HB5.out HO5.out hg6 h6.out
      have c6' := hn2.cell 0
      have f6' := hn2.frozen 0
      have HN1 := Lib.hid hn1
      have HN2 := Lib.hid hn2
      have HN3 := Lib.hid hn3
      have HN4 := Lib.hid hn4
      have HSM : Hid (Same (keep11 k) Wb W6) := Lib.hid (Same.of_below hn4 (fun p hp => by rw [show p.block = 0 from hp]; omega))
      have hgt : ¬ (4096 : Int) < (k : Int) + 1 := by omega
      clear hn1 hn2 hn3 hn4 h6 hg6
      gi_wp2_with fail
      refine ⟨(HKO.out.trans (HN3.out.trans (KeepsOthers.setCell _ _ _))).from _, HSAME.out.trans (HSM.out.trans (Same.setCell (fun p hp e => ?_) _)), ?_⟩
      · rw [show p.block = 0 from hp] at e
        simp only at e
        omega
      · show TwA w g n (at11 T f0 (k + 1)) (L.take (k + 1)) _
        rw [take_next11 hk HX.out, HTK.out]
        exact ⟨grown11_set (grown11_below HM.out.grown HN4.out (by omega)) (by omega) _ _, (HM.out.sl.below11 HN4.out (by omega)).grown (grownBy_setCell' _ _ _) (by simp; omega), HN1.out, (HM.out.ptr.below HN4.out (by omega)).far (by simp) _, (HM.out.seq.below HN4.out (by omega)).far (by simp) _, (HM.out.other.below HN4.out (by omega)).far (by simp) _⟩
  case done =>
    rintro D W hD hm hK
    rw [List.take_length] at hm
    obtain ⟨A5, c5, hb5, hown5⟩ := hm.row.row
    have hDW : D < W.heap.size := (Array.getElem?_eq_some_iff.1 hK).1
    have hgW : g < W.heap.size := hm.sl.lt
    have hwW := hm.grown.size
    have hbW := hm.row.bsz
    have hgo2 := goes11 (sb := w.heap.size + 3) W (hm.seq.cell 0) hm.sl (tab11_grown HT.out hm.grown hg0) (by omega)
    rw [HEND.out] at hgo2
    have HI2 : Hid (TwB w g n D W.heap.size (at11 T f0 L.length) (.slice A5 L.length c5) L.length L [] W) := Lib.hid ⟨hm.grown, hm.sl, hown5, fun j hj => (hown5.lt j hj).2, hb5, ⟨Nat.le_refl _, none, 0, hm.other, World.ownsRow_nil _ _ _ _⟩, hK⟩
    obtain ⟨TE, hTE⟩ : ∃ TE, at11 T f0 L.length = TE := ⟨_, rfl⟩
    rw [hTE] at HI2
    obtain ⟨B2, hB2⟩ : ∃ B2, W.heap.size = B2 := ⟨_, rfl⟩
    rw [hB2] at HI2 hDW hgW hwW hbW
    clear hm hK hb5 hown5 hTE
    go_wp2_with fail
    refine (wpIn_wide (n := 5)).1 ?_
    refine wpIn_rangeFunc_goes rfl (by omega) (gf := 21) (lb := #[.pointer (some ⟨w.heap.size + 3, 0, none⟩)]) rfl trivial (enters_of Tryd.func21 (by kernel_rfl) rfl)
      hgo2 (fun k p hp => by show p.block < W.heap.size; rw [show p.block = 0 from hp]; omega) (Below.refl _ _) (fun _ => rfl)
      (fun k W => TwB w g n D B2 TE (.slice A5 L.length c5) L.length L (L2.take k) W)
      (fun _ _ _ => False)
      (fun s X Y row hs hg hr => hs.kept hg (by omega) (by omega) hr)
      (fun c s X Y row hs hg hr => hs.elim)
      HI2.out ?round2 ?done2 ?stop2
    case round2 =>
      intro l k W2 hk _
      simp only [ienc]
      gi_wp2
      refine ⟨trivial, ?_⟩
      rintro Wb hm0
      have hlk : (L2.take k).length = k := by rw [List.length_take]; omega
      obtain ⟨x, hx⟩ : ∃ x, nth L2 k = x := ⟨_, rfl⟩
      have HX := Lib.hid hx
      rw [hx]
      obtain ⟨A7, c7, hb5, hown5⟩ := hm0.row.row
      rw [hlk] at hb5 hown5
      have c1 := hb5.cell 0
      have f1 := hb5.frozen 0
      have HM := Lib.hid hm0
      have HB5 := Lib.hid hb5
      have HO5 := Lib.hid hown5
      clear hm0 hb5 hown5 hlk hx
      gi_wp2_with (gi_at_builtin; refine wpListIn_append_11 _ rfl (.tmp 28) (.tmp 30) 22 rfl B2 3 Tryd.underlying22 (.int .i64 0) 8 info_int11 rfl (.slice A7 k c7) k _ rfl (own7_keep HO5.out (b1' _ _)) _ (.int .i64 (x : Int)) rfl ((Blk.new _ _ _).cell 0) rfl (by omega) (by omega) (by have := HM.out.row.bsz; simp; omega) ?_)
      intro A6 c6 W6 hc6 h6 hg6
      obtain ⟨hn1, hn2, hn3, hn4⟩ := HM.out.row.next (by omega) (by rw [List.length_take]; omega) HB5.out HO5.out hg6 h6.out
      have c6' := hn2.cell 0
      have f6' := hn2.frozen 0
      have HN1 := Lib.hid hn1
      have HN2 := Lib.hid hn2
      have HN3 := Lib.hid hn3
      have HN4 := Lib.hid hn4
      have HSM : Hid (Same (keep11 k) Wb W6) := Lib.hid (Same.of_below hn4 (fun p hp => by rw [show p.block = 0 from hp]; omega))
      have hgt : ¬ (4096 : Int) < (k : Int) + 1 := by omega
      have HDK := Lib.hid ((KeepsOthers.setCell W6 ⟨w.heap.size + 2, 0, none⟩ (.slice A6 (k + 1) c6)).same D _ ((hn4.block D (by omega)).trans HM.out.mark) rfl)
      clear hn1 hn2 hn3 hn4 h6 hg6
      gi_wp2_with fail
      refine ⟨(HN3.out.trans (KeepsOthers.setCell _ _ _)).from _, HSM.out.trans (Same.setCell (fun p hp e => ?_) _), ?_⟩
      · rw [show p.block = 0 from hp] at e
        simp only at e
        omega
      · show TwB w g n D B2 TE (.slice A5 L.length c5) L.length L (L2.take (k + 1)) _
        rw [take_next11 hk HX.out]
        exact ⟨grown11_set (grown11_below HM.out.grown HN4.out (by omega)) (by omega) _ _, (HM.out.sl.below11 HN4.out (by omega)).grown (grownBy_setCell' _ _ _) (by simp; omega), own7_far (own11_low HM.out.aown HN4.out HM.out.abelow) (grownBy_setCell' _ _ _) (own7_ne (own11_low HM.out.aown HN4.out HM.out.abelow) HN2.out ints_ty11), HM.out.abelow, (HM.out.avar.below HN4.out (by omega)).far (by simp) _, HN1.out, HDK.out⟩
    case done2 =>
      rintro E W2 hE hm hK
      rw [List.take_length] at hm
      obtain ⟨A7, c7, hb5, hown5⟩ := hm.row.row
      have c1 := hb5.cell 0
      have c2 := hm.avar.cell 0
      have hEW : E < W2.heap.size := (Array.getElem?_eq_some_iff.1 hK).1
      have hW2 := hm.row.bsz
      have hk1 : (W2.drew.putObj E (.deferred none)).heap[D]? = some (.deferred (some [])) := (World.putObj_heap_other (show D ≠ E by omega)).trans hm.mark
      have HKE : Hid (W2.drew.heap[E]? = some (.deferred (some []))) := Lib.hid hK
      have HKD := Lib.hid hk1
      have hg1 := grownBy_putObj' W2.drew E (.deferred none)
      have hg2 := grownBy_putObj' (W2.drew.putObj E (.deferred none)) D (.deferred none)
      have hr1 : ∀ r, some E = some r → ∃ o : Obj, W2.drew.heap[r]? = some o ∧ o.isCells = false := fun r e => by cases e; exact ⟨_, hK, rfl⟩
      have hr2 : ∀ r, some D = some r → ∃ o : Obj, (W2.drew.putObj E (.deferred none)).heap[r]? = some o ∧ o.isCells = false := fun r e => by cases e; exact ⟨_, hk1, rfl⟩
      have HOA := Lib.hid (own11_kept (own11_kept (own7_none hm.aown (grown7_drew _ _)) hg1 hr1) hg2 hr2)
      have HOB := Lib.hid (own11_kept (own11_kept (own7_none hown5 (grown7_drew _ _)) hg1 hr1) hg2 hr2)
      have HGR := Lib.hid (grown11_kept (grown11_kept (hm.grown.trans (grown7_drew W2 (some g))) hg1 (fun r e => by cases e; omega)) hg2 (fun r e => by cases e; omega))
      clear hm hK hb5 hown5 hg1 hg2 hr1 hr2 hk1
      go_wp2_with fail
      go_region
      go_wp2_with fail
      exact leave_mark2 (v := .tuple #[.slice A5 L.length c5, .slice A7 L2.length c7]) HKE.out HKD.out (by simp [results, Tryd.results16, go_sem]) ⟨A5, c5, A7, c7, rfl, own7_base HOA.out (by omega), own7_base HOB.out (by omega), HGR.out⟩
    case stop2 =>
      rintro D2 c k W2 hD2 hk hf hK
      exact hf.elim
  case stop =>
    rintro D c k W hD hk hf hK
    exact hf.elim
end Go.Proofs.YthgenoepgjkfoaaDoor
