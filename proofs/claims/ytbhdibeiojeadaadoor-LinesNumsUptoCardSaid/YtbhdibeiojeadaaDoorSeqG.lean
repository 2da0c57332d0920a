/-
  strings.SplitSeq at one blank: the pieces of a text come in their order.
-/
import Derived.Test.YtbhdibeiojeadaaDoorSeqW
namespace Go.Proofs.YtbhdibeiojeadaaDoor
open Go.RowKit Go.Shelf
attribute [local go_sem] Oper.semAt_some
set_option maxRecDepth 100000

/-- How long the text is that stands in a variable. -/
def strAt (p : Addr) (W : World) : Nat := match W.cell? p with | some (.string r) => r.size | _ => 0
theorem strAt_of {p : Addr} {W : World} {r : ByteArray} (h : W.cell? p = some (.string r)) : strAt p W = r.size := by unfold strAt; rw [h]
/-- What must stay behind each round: the iterator's three variables. -/
def skeep (sb pb vb : Nat) (_ : Nat) (p : Addr) : Prop := p = ⟨sb, 0, none⟩ ∨ p = ⟨pb, 0, none⟩ ∨ p = ⟨vb, 0, none⟩
/-- The k-th piece. -/
def pat (ps : List ByteArray) (k : Nat) : ByteArray := ps.getD k ⟨#[]⟩
/-- What the k-th round is handed. -/
def senc (ps : List ByteArray) (k : Nat) : Array Value := #[.string (pat ps k)]
theorem drop_len {α : Type} {ps : List α} {k : Nat} {x : α} {r : List α} (h : ps.drop k = x :: r) : k < ps.length := by
  rcases Nat.lt_or_ge k ps.length with h1 | h1
  · exact h1
  · rw [List.drop_eq_nil_of_le h1] at h; cases h
theorem drop_at {ps : List ByteArray} {k : Nat} {x : ByteArray} {r : List ByteArray} (h : ps.drop k = x :: r) : pat ps k = x ∧ ps.drop (k + 1) = r := by
  have hk := drop_len h
  rw [List.drop_eq_getElem_cons hk] at h
  injection h with h1 h2
  exact ⟨by unfold pat; rw [List.getD_eq_getElem?_getD, List.getElem?_eq_getElem hk, Option.getD_some]; exact h1, h2⟩

set_option maxHeartbeats 2000000 in
theorem split_goes (sb pb vb : Nat) (hsp : sb ≠ pb) (hsv : sb ≠ vb) (s : ByteArray) (ps : List ByteArray) (w : World) (hps : pc 32 s = ps) (hsz : s.size ≤ 4611686018427387904)
    (h1 : w.cell? ⟨sb, 0, none⟩ = some (.string s)) (h2 : w.cell? ⟨pb, 0, none⟩ = some (.string ⟨#[32]⟩)) (h3 : w.cell? ⟨vb, 0, none⟩ = some (.int .i64 0)) :
    GoesW Fence.wide 4 Tryd.prog 55 #[.pointer (some ⟨pb, 0, none⟩), .pointer (some ⟨sb, 0, none⟩), .pointer (some ⟨vb, 0, none⟩)] (senc ps) (skeep sb pb vb) ps.length ⟨sb, 0, none⟩ w := fun l J Jx W hW _ _ hS hF hY h0 => by
  have b1 := World.block_lt_of_cell? w _ h1
  have b2 := World.block_lt_of_cell? w _ h2
  have b3 := World.block_lt_of_cell? w _ h3
  have c1 := (hW.cell b1).trans h1
  have c2 := (hW.cell b2).trans h2
  have c3 := (hW.cell b3).trans h3
  have HPS : Hid (ps.drop 0 = pc 32 s) := Lib.hid (by rw [List.drop_zero]; exact hps.symm)
  clear hps h1 h2 h3 b1 b2 b3
  refine callsIn_of_wp Tryd.func55 rfl trivial ?_ rfl
  simp only [Tryd.ntmps55, List.size_toArray, List.length_cons, List.length_nil, Nat.reduceAdd, Nat.reduceSub, Array.replicate_succ, Array.replicate_zero, List.push_toArray, List.append_toArray, List.nil_append, List.cons_append]
  gi_wp2
  gi_loopw [7] (fun _ wr => ∃ (k : Nat) (r : ByteArray), Hid (ps.drop k = pc 32 r) ∧ r.size ≤ 4611686018427387904 ∧ J k wr ∧ wr.cell? ⟨sb, 0, none⟩ = some (.string r) ∧ wr.cell? ⟨pb, 0, none⟩ = some (.string ⟨#[32]⟩) ∧ wr.cell? ⟨vb, 0, none⟩ = some (.int .i64 0))
    (fun _ wr => strAt ⟨sb, 0, none⟩ wr)
  case atStart => exact ⟨0, s, HPS, hsz, h0, c1, c2, c3⟩
  case round =>
    obtain ⟨k, r, HD, hrs, hJ, d1, d2, d3⟩ := hrel
    have hfr := hF k wr hJ
    rcases idx_cases 32 r with hix | ⟨o, hix⟩
    · have hd := HD.out
      rw [pc_none hix] at hd
      obtain ⟨hg, hd2⟩ := drop_at hd
      have hk := drop_len hd
      have hN : k + 1 = ps.length := by
        have := List.length_drop (l := ps) (i := k)
        rw [hd] at this
        simp at this
        omega
      obtain ⟨fn, tmps, assign, body, hy, hR⟩ := hY k wr hk hJ
      simp only [senc, hg] at hy
      have hidx := fun W => Tryd.strings_Index_one r 32 W
      simp only [hix] at hidx
      have HN := Lib.hid hN
      clear hd hg hd2 hN hix HD
      gi_wp2_with fail
      refine ⟨trivial, ?_⟩
      refine (callsIn_wide.2 (hidx _)).mono ?_
      rintro e w2 ⟨rfl, rfl⟩
      gi_wp2_with fail
      refine hR.mono ?_
      rintro e W3 (⟨rfl, hJ3, hk3⟩ | ⟨rfl, hJx3⟩)
      · gi_wp2
        go_end0
        exact ⟨⟨_, rfl⟩, .inl (by rw [← HN.out]; exact hJ3)⟩
      · gi_wp2
        go_end0
        exact ⟨⟨_, rfl⟩, .inr ⟨_, hk, hJx3⟩⟩
    · have hd := HD.out
      obtain ⟨ho, hpc⟩ := pc_some hix
      rw [hpc] at hd
      obtain ⟨hg, hd2⟩ := drop_at hd
      have hk := drop_len hd
      obtain ⟨fn, tmps, assign, body, hy, hR⟩ := hY k wr hk hJ
      simp only [senc, hg] at hy
      have hidx := fun W => Tryd.strings_Index_one r 32 W
      simp only [hix] at hidx
      have HD2 := Lib.hid hd2
      have hsz2 : (r.extract (o + 1) r.size).size < r.size := by rw [ByteArray.size_extract]; omega
      have hi1 : (o : Int) ≤ (r.size : Int) := by omega
      have hi2 : (o : Int) + 1 ≤ (r.size : Int) := by omega
      clear hd hg hd2 hix HD hpc
      gi_wp2_with fail
      refine ⟨trivial, ?_⟩
      refine (callsIn_wide.2 (hidx _)).mono ?_
      rintro e w2 ⟨rfl, rfl⟩
      gi_wp2_with fail
      refine hR.mono ?_
      rintro e W3 (⟨rfl, hJ3, hk3⟩ | ⟨rfl, hJx3⟩)
      · have e1 := hk3.cell _ _ (.inl rfl) d1
        have e2 := hk3.cell _ _ (.inr (.inl rfl)) d2
        have e3 := hk3.cell _ _ (.inr (.inr rfl)) d3
        have ef := hF (k + 1) W3 hJ3
        have HJ := Lib.hid (hS (k + 1) W3 (.string (r.extract (o + 1) r.size)) hJ3)
        have E2 := Lib.hid e2
        have E3 := Lib.hid e3
        have E1 := Lib.hid e1
        have D1 := Lib.hid d1
        clear hk3 hJ3 hJ d1 d2 d3 hfr
        gi_wp2_with fail
        go_roundw
        case rel =>
          exact ⟨k + 1, r.extract (o + 1) r.size, HD2, by omega, HJ.out, World.cell?_setCell_same' _ _ _ (by rw [E1.out]; rfl), (World.cell?_setCell_other _ _ _ _ (by intro e; injection e with e; exact hsp e)).trans E2.out, (World.cell?_setCell_other _ _ _ _ (by intro e; injection e with e; exact hsv e)).trans E3.out⟩
        case measure =>
          rw [strAt_of D1.out]
          rw [strAt_of (World.cell?_setCell_same' _ _ _ (by rw [E1.out]; rfl))]
          exact hsz2
      · gi_wp2
        refine bodyPost_ret (results_none rfl _ _ _) rfl ?_
        exact ⟨⟨_, rfl⟩, .inr ⟨_, hk, hJx3⟩⟩

set_option maxHeartbeats 1000000 in
theorem splitSeq_any (s : ByteArray) (w : World) :
    Calls Tryd.prog 26 #[.string s, .string ⟨#[32]⟩] w fun e w' => e = .returned (.func (.func 55) #[] #[.pointer (some ⟨w.heap.size + 1, 0, none⟩), .pointer (some ⟨w.heap.size, 0, none⟩), .pointer (some ⟨w.heap.size + 2, 0, none⟩)]) ∧
      ((w.alloc (.cells #[.string s] 9)).alloc (.cells #[.string ⟨#[32]⟩] 9)).alloc (.cells #[.int .i64 0] 3) = w' := by
  go_enter Tryd.func26, Tryd.ntmps26
  go_wp2
  go_ret
  exact ⟨rfl, rfl⟩
end Go.Proofs.YtbhdibeiojeadaaDoor
