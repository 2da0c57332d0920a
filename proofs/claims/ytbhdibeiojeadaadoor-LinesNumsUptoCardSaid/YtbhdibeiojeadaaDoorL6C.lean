/-
  Lines: a text's pieces: the document's.
-/
import Derived.Test.YtbhdibeiojeadaaDoorL6B
import Derived.Test.YtbhdibeiojeadaaDoorMem8
import Derived.Deep.RegionLaw
import Derived.Test.YtbhdibeiojeadaaDoorSkip
import Derived.Laws.IdiomStrings
namespace Go.Proofs.YtbhdibeiojeadaaDoor
open Go.RowKit
set_option maxRecDepth 100000

/-- A cell of what is owned is written. -/
theorem ownsRow_put {w : World} {base : Nat} {e : TypeId} {g n c : Nat} {vs : List Value} (h : w.ownsRow base e 1 (.slice (some ⟨g, 0, none⟩) n c) n vs) (j : Nat) (u : Value) :
    (w.setCell ⟨g, j, none⟩ u).ownsRow base e 1 (.slice (some ⟨g, 0, none⟩) n c) n (vs.set j u) := by
  obtain ⟨hl, hh⟩ := h
  refine ⟨by simpa using hl, ?_⟩
  rcases hh with ⟨hv, _⟩ | ⟨g', cap, cur, hv, hb, hheap, hnc, hcm, hsz, htk⟩
  · cases hv
  · injection hv with h1 h2 h3
    injection h1 with h1
    injection h1 with h1
    subst h1 h3
    have hk : Blk w g e cur := hheap
    exact .inr ⟨g, c, cur.setIfInBounds j u, rfl, hb, hk.set_ j u, hnc, hcm, by simpa using hsz, by rw [Array.toList_setIfInBounds, List.take_set, htk]⟩
theorem ownsRow_slice {w : World} {base : Nat} {e : TypeId} {v : Value} {n : Nat} {vs : List Value} (h : w.ownsRow base e 1 v n vs) (hn : 0 < n) : ∃ g c, v = .slice (some ⟨g, 0, none⟩) n c ∧ n ≤ c ∧ base ≤ g ∧ g < w.heap.size := by
  rcases h.2 with ⟨_, h0⟩ | ⟨g, cap, cur, hv, hb, hheap, hnc, _⟩
  · omega
  · exact ⟨g, cap, hv, hnc, hb, by
      rcases Nat.lt_or_ge g w.heap.size with hlt | hge
      · exact hlt
      · rw [Array.getElem?_eq_none hge] at hheap; cases hheap⟩

section
variable {P : Program} (w : World)
/-- One element of one cell is appended to a row of one's own. -/
theorem wpList_append_v1 {ops : Array Oper} {rest : List Oper} {o : Oper} {a : Act} {Q : Exit → Act → World → Prop} (hgd : o.guard = none) (s x : Operand) (t : TypeId)
    (ho : o.op = .call { callee := .builtin .append, args := #[s, x], argTypes := #[t, t] })
    (base : Nat) (e : TypeId) (ht : P.underlying t = some (.slice e)) (z : Value) (bt : Nat) (hinfo : (P.info? e).map (fun i => (i.zero, i.size, i.bytes)) = some (some z, 1, bt)) (hzs : z.cells.size = 1)
    (v : Value) (n : Nat) (xs : List Value) (hs : a.eval s = v) (hown : w.ownsRow base e 1 v n xs) (g : Nat) (u : Value) (hx : a.eval x = .slice (some ⟨g, 0, none⟩) 1 1) (hc : w.cell? ⟨g, 0, none⟩ = some u) (hu : u.oneCell' = true)
    (hb : n + 1 ≤ 100000000) (hbt : bt ≤ 1000) (hbase : base ≤ w.heap.size)
    (h : ∀ A' c' w', n + 1 ≤ c' → Hid (w'.ownsRow base e 1 (.slice A' (n + 1) c') (n + 1) (xs ++ [u])) → w.grownBy w' v.ownBlock → wpList P ops Q rest (a.put o.dst (.slice A' (n + 1) c')) w') :
    wpList P ops Q (o :: rest) a w := by
  cases hi : P.info? e with
  | none => rw [hi] at hinfo; cases hinfo
  | some i =>
    rw [hi] at hinfo
    simp only [Option.map_some, Option.some.injEq, Prod.mk.injEq] at hinfo
    obtain ⟨h1, h2, h3⟩ := hinfo
    refine wpList_append_own w hgd s x t ho base e i z 1 bt ht hi h1 h2 h3 hzs (by omega) v n xs hs hown ⟨g, 0, none⟩ 1 1 [u] hx rfl ?_ (by simpa using hu) (by unfold maxLen; omega) ?_ hbase ?_
    · intro j u' hj
      match j, hj with
      | 0, hj =>
        obtain rfl : u = u' := by simpa using hj
        exact hc
      | j + 1, hj => simp at hj
    · have : (n + 1) * bt ≤ 100000000 * 1000 := Nat.mul_le_mul hb hbt
      omega
    · intro v' w' h4 h5 _
      obtain ⟨g', c', rfl, hc', _, _⟩ := ownsRow_slice h4 (by omega)
      exact h _ _ _ hc' h4 h5
end

theorem below_drN' (w : World) : Below w.heap.size w w.drew := (Below.refl _ _).drew
theorem own_drew {w : World} {base : Nat} {e : TypeId} {v : Value} {n : Nat} {vs : List Value} (h : w.ownsRow base e 1 v n vs) : w.drew.ownsRow base e 1 v n vs := h
theorem own_frozen {w : World} {base : Nat} {e : TypeId} {g n c : Nat} {vs : List Value} (h : w.ownsRow base e 1 (.slice (some ⟨g, 0, none⟩) n c) n vs) (j : Nat) (hj : j < n) : w.frozen? ⟨g, j, none⟩ = false := by
  rcases h.2 with ⟨hv, _⟩ | ⟨g', cap, cur, hv, hb, hheap, hnc, hcm, hsz, htk⟩
  · cases hv
  · injection hv with h1 h2 h3
    injection h1 with h1
    injection h1 with h1
    subst h1
    have hk : Blk w g e cur := hheap
    exact hk.frozen j
theorem one_str (w : World) (x : UInt8) : (convert 60 9 (.slice (some ⟨w.heap.size, 0, none⟩) 1 1)).run Tryd.prog (w.alloc (.cells #[.int .u8 (x.toNat : Int)] 5)) = .ok (.string ⟨#[x]⟩) (w.alloc (.cells #[.int .u8 (x.toNat : Int)] 5)) := by
  have := run_convert_bytes_back (P := Tryd.prog) (w.alloc (.cells #[.int .u8 (x.toNat : Int)] 5)) 60 9 5 ⟨w.heap.size, 0, none⟩ 1 [x] Tryd.underlying60 Tryd.underlying5 Tryd.underlying9 (fun j hj => by
    obtain rfl : j = 0 := by simpa using hj
    exact (Blk.new w 5 #[.int .u8 (x.toNat : Int)]).cell 0)
  exact this
/-- The pieces of the first k bytes, at the byte c. -/
def cutTo (c : UInt8) (l : List UInt8) : Nat → List ByteArray
  | 0 => [⟨#[]⟩]
  | k + 1 => if l.getD k 0 = c then cutTo c l k ++ [⟨#[]⟩] else (cutTo c l k).set ((cutTo c l k).length - 1) ((cutTo c l k).getD ((cutTo c l k).length - 1) ⟨#[]⟩ ++ ⟨#[l.getD k 0]⟩)
theorem cutTo_len (c : UInt8) (l : List UInt8) (k : Nat) : 0 < (cutTo c l k).length ∧ (cutTo c l k).length ≤ k + 1 := by
  induction k with
  | zero => simp [cutTo]
  | succ k ih =>
    simp only [cutTo]
    split
    · rw [List.length_append, List.length_singleton]; omega
    · rw [List.length_set]; omega
theorem cutTo_size (c : UInt8) (l : List UInt8) (k : Nat) : ∀ j, ((cutTo c l k).getD j ⟨#[]⟩).size ≤ k := by
  induction k with
  | zero =>
    intro j
    rcases j with _ | j <;> simp [cutTo] <;> rfl
  | succ k ih =>
    intro j
    simp only [cutTo]
    split
    · rcases Nat.lt_or_ge j (cutTo c l k).length with h | h
      · rw [List.getD_eq_getElem?_getD, List.getElem?_append_left h, ← List.getD_eq_getElem?_getD]
        have := ih j; omega
      · rw [List.getD_eq_getElem?_getD, List.getElem?_append_right h]
        rcases j - (cutTo c l k).length with _ | i
        · show (⟨#[]⟩ : ByteArray).size ≤ k + 1
          exact Nat.zero_le _
        · show (⟨#[]⟩ : ByteArray).size ≤ k + 1
          exact Nat.zero_le _
    · rw [List.getD_eq_getElem?_getD, List.getElem?_set]
      split
      · split
        · simp only [Option.getD_some]
          rw [ByteArray.size_append]
          have := ih ((cutTo c l k).length - 1)
          show _ + 1 ≤ k + 1
          omega
        · exact Nat.zero_le _
      · rw [← List.getD_eq_getElem?_getD]
        have := ih j; omega
theorem strs_set (ss : List ByteArray) (j : Nat) (s : ByteArray) : (strs ss).set j (.string s) = strs (ss.set j s) := by simp [strs, List.map_set]
theorem info_str : (Tryd.prog.info? 9).map (fun i => (i.zero, i.size, i.bytes)) = some (some (.string ⟨#[]⟩), 1, 16) := by kernel_rfl

set_option maxHeartbeats 8000000 in
theorem refCut_any (s : ByteArray) (c : UInt8) (w : World) (hs : s.size ≤ 1000000) :
    Calls Tryd.prog 27 #[.string s, .int .u8 (c.toNat : Int)] w fun e w' => ∃ A n cp, e = .returned (.slice A n cp) ∧ w'.ownsRow w.heap.size 9 1 (.slice A n cp) n (strs (cutTo c s.data.toList s.size)) ∧ Below w.heap.size w w' := by
  have hget : ∀ (k : Nat) (hk : k < s.size), (s[k]'hk) = s.data.toList.getD k 0 := fun k hk => str_get rfl hk
  obtain ⟨l, hl⟩ : ∃ l, s.data.toList = l := ⟨_, rfl⟩
  simp only [hl] at hget
  rw [hl]
  have HGET := Lib.hid hget
  clear hget hl
  go_enter Tryd.func27, Tryd.ntmps27
  go_wp2_with fail
  have hb0 := b1' w (.cells #[.string ⟨#[]⟩] 9)
  have ho0 : (w.alloc (.cells #[.string ⟨#[]⟩] 9)).ownsRow w.heap.size 9 1 (.slice (some ⟨w.heap.size, 0, none⟩) 1 1) 1 (strs (cutTo c l 0)) :=
    ⟨rfl, .inr ⟨w.heap.size, 1, #[.string ⟨#[]⟩], rfl, Nat.le_refl _, heap_alloc_new w _, Nat.le_refl _, by unfold maxLen; omega, rfl, rfl⟩⟩
  have HB0 := Lib.hid hb0
  have HO0 := Lib.hid ho0
  clear hb0 ho0
  go_loopw [5, 6] (fun ov iv wr => ∃ (k n cp : Nat) (A : Option Addr), ov = .slice A n cp ∧ iv = .int .i64 (k : Int) ∧ k ≤ s.size ∧ n = (cutTo c l k).length ∧ n ≤ cp ∧ Hid (wr.ownsRow w.heap.size 9 1 (.slice A n cp) n (strs (cutTo c l k))) ∧ Hid (Below w.heap.size w wr)) (fun _ iv _ => s.size - (intOf iv).toNat)
  case atStart => exact ⟨0, 1, 1, _, rfl, rfl, by omega, rfl, Nat.le_refl _, HO0, HB0⟩
  case round =>
    clear HB0 HO0
    obtain ⟨k, n, cp, A, rfl, rfl, hk, hn, hcp, HO, HB⟩ := hrel
    have hlen := cutTo_len c l k
    rw [← hn] at hlen
    by_cases hkn : k < s.size
    · have hg := HGET.out k hkn
      obtain ⟨x, hx⟩ : ∃ x, l.getD k 0 = x := ⟨_, rfl⟩
      rw [hx] at hg
      have HN := Lib.hid hn
      have HX := Lib.hid hx
      clear hn hx
      by_cases hxc : x = c
      · have e1 : (((s[k]'hkn).toNat : Int) == (c.toNat : Int)) = true := by rw [hg, hxc]; simp
        have e2 : ((s[k]'hkn).toNat : Int) = (c.toNat : Int) := by rw [hg, hxc]
        have HC : Hid (cutTo c l (k + 1) = cutTo c l k ++ [⟨#[]⟩]) := Lib.hid (by simp only [cutTo]; rw [HX.out, if_pos hxc])
        clear hg
        go_wp2_with (at_builtin; go_loud (refine wpList_append_v1 _ rfl (.tmp 19) (.tmp 20) 22 rfl w.heap.size 9 Tryd.underlying22 (.string ⟨#[]⟩) 16 info_str rfl (.slice A n cp) n (strs (cutTo c l k)) rfl (HO.out.alloc _) wr.heap.size (.string ⟨#[]⟩) rfl (cell_one_new wr _ _ 0 _ rfl) rfl (by omega) (by omega) (by have := HB.out.size; simp; omega) ?_); intro A' c' w' hc' HO2 hg2)
        have hbw := (HB.out.alloc HB.out.size _).grown hg2 (by have := HB.out.size; simp; omega) (fun r hr => (HO.out.lt r hr).1)
        have HB2 := Lib.hid hbw
        clear hbw hg2
        go_wp2_with fail
        go_roundw
        case rel => exact ⟨k + 1, n + 1, c', A', rfl, by go_num, by omega, by rw [HC.out, List.length_append, HN.out]; rfl, hc', by rw [HC.out, strs_append]; exact HO2, HB2⟩
        case measure => simp [intOf]; omega
      · have e2 : ¬ ((s[k]'hkn).toNat : Int) = (c.toNat : Int) := by
          rw [hg]
          intro h
          exact hxc (UInt8.toNat_inj.1 (by omega))
        have e1 : (((s[k]'hkn).toNat : Int) == (c.toNat : Int)) = false := beq_eq_false_iff_ne.2 e2
        have hxi : ((s[k]'hkn).toNat : Int) = (x.toNat : Int) := by rw [hg]
        obtain ⟨gb, cp', hA, _, hgb, hglt⟩ := ownsRow_slice HO.out (by omega)
        injection hA with hA1 hA2 hA3
        subst hA1 hA3
        obtain ⟨m, rfl⟩ : ∃ m, n = m + 1 := ⟨n - 1, by omega⟩
        obtain ⟨t, ht⟩ : ∃ t, (cutTo c l k).getD m ⟨#[]⟩ = t := ⟨_, rfl⟩
        have hcell : wr.cell? ⟨gb, m, none⟩ = some (.string t) := by
          obtain ⟨b', o', hq, _, hc'⟩ := (Rv.of_own HO.out).at_ (strs_get (k := m) (by rw [← HN.out]; omega))
          injection hq with hq
          injection hq with hq1 hq2
          subst hq1 hq2
          rw [Nat.zero_add, ht] at hc'
          exact hc'
        have HC : Hid (cutTo c l (k + 1) = (cutTo c l k).set m (t ++ ⟨#[x]⟩)) := Lib.hid (by simp only [cutTo]; rw [HX.out, if_neg hxc, ← HN.out, Nat.add_sub_cancel, ht])
        have hm1 : (((m + 1 : Nat) : Int) - 1) = (m : Int) := by omega
        have hm2 : IntKind.i64.wrap (((m + 1 : Nat) : Int) - 1) = (m : Int) := by rw [hm1]; exact IntWalk.i64_in _ (by omega)
        have hi2 : (m : Int) < (m : Int) + 1 := by omega
        have hm3 : IntKind.i64.wrap (m : Int) = (m : Int) := IntWalk.i64_in _ (by omega)
        have hi0 : (0 : Int) ≤ (m : Int) := by omega
        have hi1 : (m : Int) < ((m + 1 : Nat) : Int) := by omega
        clear hg
        -- the region
        have hsz : t.size + 1 ≤ 9223372036854775807 := by have := cutTo_size c l k m; rw [ht] at this; omega
        clear ht
        have hadd := fun W => run_string_add_sum (P := Tryd.prog) W t (⟨#[x]⟩ : ByteArray) (by rw [show (⟨#[x]⟩ : ByteArray).size = 1 from rfl]; omega)
        have hz3 : ¬ 9223372036854775807 ≤ t.size := by omega
        have hz4 : ¬ 9223372036854775807 < t.size + 1 := by omega
        have HO := Lib.hid (own_drew HO.out)
        have HB := Lib.hid (HB.out.trans ((below_drN' wr).mono HB.out.size))
        have HCELL : Hid (wr.drew.cell? ⟨gb, m, none⟩ = some (.string t)) := Lib.hid hcell
        have HBS := Lib.hid True.intro
        clear hcell
        go_wp2_with fail
        refine wp_region_held_drew (S := fun _ => True) (by kernel_rfl) trivial (fun hHeld => ?_)
        obtain ⟨wn, hwn⟩ : ∃ W, wr.drew = W := ⟨_, rfl⟩
        rw [hwn] at HO HB HCELL
        rw [hwn]
        clear hwn
        refine wpAnyH_take (i := 0) (v := ?_) (op_of rfl) (by kernel_rfl) (by kernel_rfl) (by kernel_rfl) (fun _ _ _ h => h) (Or.inl ⟨by rfl, fun W hS => ?_⟩) (by assumption) ?_
        rotate_left
        · dsimp only at hS
          go_simp
          try with_reducible rfl
        try dsimp only [Act.put]
        try simp only [List.setIfInBounds_toArray, List.set_cons_zero, List.set_cons_succ]
        refine wpAnyH_take (i := 1) (v := ?_) (op_of rfl) (by kernel_rfl) (by kernel_rfl) (by kernel_rfl) (fun _ _ _ h => h) (Or.inl ⟨by rfl, fun W hS => ?_⟩) (by assumption) ?_
        rotate_left
        · dsimp only at hS
          go_simp
          try with_reducible rfl
        try dsimp only [Act.put]
        try simp only [List.setIfInBounds_toArray, List.set_cons_zero, List.set_cons_succ]
        refine wpAnyH_take (i := 2) (v := ?_) (op_of rfl) (by kernel_rfl) (by kernel_rfl) (by kernel_rfl) (fun _ _ _ h => h) (Or.inl ⟨by rfl, fun W hS => ?_⟩) (by assumption) ?_
        rotate_left
        · dsimp only at hS
          go_simp
          try with_reducible rfl
        try dsimp only [Act.put]
        try simp only [List.setIfInBounds_toArray, List.set_cons_zero, List.set_cons_succ]
        refine wpAnyH_take (i := 3) (v := ?_) (op_of rfl) (by kernel_rfl) (by kernel_rfl) (by kernel_rfl) (fun _ _ _ h => h) (Or.inl ⟨by rfl, fun W hS => ?_⟩) (by assumption) ?_
        rotate_left
        · dsimp only at hS
          go_simp
          try with_reducible rfl
        try dsimp only [Act.put]
        try simp only [List.setIfInBounds_toArray, List.set_cons_zero, List.set_cons_succ]
        refine wpAnyH_take (i := 4) (v := ?_) (op_of rfl) (by kernel_rfl) (by kernel_rfl) (by kernel_rfl) (fun _ _ _ h => h) (Or.inl ⟨by rfl, fun W hS => ?_⟩) (by assumption) ?_
        rotate_left
        · dsimp only at hS
          go_simp
          try with_reducible rfl
        try dsimp only [Act.put]
        try simp only [List.setIfInBounds_toArray, List.set_cons_zero, List.set_cons_succ]
        refine wpAnyH_take (i := 5) (v := ?_) (op_of rfl) (by kernel_rfl) (by kernel_rfl) (by kernel_rfl) (fun _ _ _ h => h) (Or.inl ⟨by rfl, fun W hS => ?_⟩) (by assumption) ?_
        rotate_left
        · dsimp only at hS
          go_simp
          try with_reducible rfl
        try dsimp only [Act.put]
        try simp only [List.setIfInBounds_toArray, List.set_cons_zero, List.set_cons_succ]
        refine wpAnyH_take (i := 6) (v := ?_) (op_of rfl) (by kernel_rfl) (by kernel_rfl) (by kernel_rfl) (fun _ _ _ h => h) (Or.inl ⟨by rfl, fun W hS => ?_⟩) (by assumption) ?_
        rotate_left
        · dsimp only at hS
          go_simp
          try with_reducible rfl
        try dsimp only [Act.put]
        try simp only [List.setIfInBounds_toArray, List.set_cons_zero, List.set_cons_succ]
        refine wpAnyH_take (i := 7) (v := ?_) (op_of rfl) (by kernel_rfl) (by kernel_rfl) (by kernel_rfl) (fun _ _ _ h => h) (Or.inl ⟨by rfl, fun W hS => ?_⟩) (by assumption) ?_
        rotate_left
        · dsimp only at hS
          go_simp
          try with_reducible rfl
        try dsimp only [Act.put]
        try simp only [List.setIfInBounds_toArray, List.set_cons_zero, List.set_cons_succ]
        refine wpAnyH_take (i := 8) (v := ?_) (op_of rfl) (by kernel_rfl) (by kernel_rfl) (by kernel_rfl) (fun _ _ _ h => h) (Or.inl ⟨by rfl, fun W hS => ?_⟩) (by assumption) ?_
        rotate_left
        · dsimp only at hS
          go_simp
          try with_reducible rfl
        try dsimp only [Act.put]
        try simp only [List.setIfInBounds_toArray, List.set_cons_zero, List.set_cons_succ]
        refine wpAnyH_take (i := 10) (v := ?_) (op_of rfl) (by kernel_rfl) (by kernel_rfl) (by kernel_rfl) (fun _ _ _ h => h) (Or.inl ⟨by rfl, fun W hS => ?_⟩) (by assumption) ?_
        rotate_left
        · dsimp only at hS
          go_simp
          try with_reducible rfl
        try dsimp only [Act.put]
        try simp only [List.setIfInBounds_toArray, List.set_cons_zero, List.set_cons_succ]
        refine wpAnyH_take (i := 11) (v := ?_) (op_of rfl) (by kernel_rfl) (by kernel_rfl) (by kernel_rfl) (fun _ _ _ h => h) (Or.inl ⟨by rfl, fun W hS => ?_⟩) (by assumption) ?_
        rotate_left
        · dsimp only at hS
          go_simp
          try with_reducible rfl
        try dsimp only [Act.put]
        try simp only [List.setIfInBounds_toArray, List.set_cons_zero, List.set_cons_succ]
        refine wpAnyH_take (i := 12) (v := ?_) (op_of rfl) (by kernel_rfl) (by kernel_rfl) (by kernel_rfl) (fun _ _ _ h => h) (Or.inl ⟨by rfl, fun W hS => ?_⟩) (by assumption) ?_
        rotate_left
        · dsimp only at hS
          go_simp
          try with_reducible rfl
        try dsimp only [Act.put]
        try simp only [List.setIfInBounds_toArray, List.set_cons_zero, List.set_cons_succ]
        refine wpAnyH_ready (rs := [9, 13]) (by kernel_rfl) (by simp) (AllReadyH.cons (op_of rfl) (fun K hK => ?_) (AllReadyH.cons (op_of rfl) (fun K hK => ?_) AllReadyH.nil))
        · skip
          have q := HCELL.out
          go_simp
          refine hK.out _ _ HBS.out (fun hHeld => ?_)
          clear hK K
          try dsimp only [Act.put]
          try simp only [List.setIfInBounds_toArray, List.set_cons_zero, List.set_cons_succ]
          refine wpAnyH_ready (rs := [13]) (by kernel_rfl) (by simp) (AllReadyH.cons (op_of rfl) (fun K hK => ?_) AllReadyH.nil)
          go_simp
          have hb := b1' wn (.cells #[.int .u8 (x.toNat : Int)] 5)
          have HCV := Lib.hid (one_str wn x)
          have HO := Lib.hid (HO.out.alloc (.cells #[.int .u8 (x.toNat : Int)] 5))
          have HCELL := Lib.hid ((hb.cell (World.block_lt_of_cell? _ _ HCELL.out)).trans HCELL.out)
          have HB := Lib.hid (HB.out.trans (hb.mono HB.out.size))
          obtain ⟨wn, hw⟩ : ∃ W, wn.alloc (.cells #[.int .u8 (x.toNat : Int)] 5) = W := ⟨_, rfl⟩
          rw [hw] at HCV HO HCELL HB
          rw [hw]
          clear hb hw
          refine hK.out _ _ HBS.out (fun hHeld => ?_)
          clear hK K
          try dsimp only [Act.put]
          try simp only [List.setIfInBounds_toArray, List.set_cons_zero, List.set_cons_succ]
          refine wpAnyH_ready (rs := [14]) (by kernel_rfl) (by simp) (AllReadyH.cons (op_of rfl) (fun K hK => ?_) AllReadyH.nil)
          have q := HCV.out
          go_simp
          refine hK.out _ _ HBS.out (fun hHeld => ?_)
          clear hK K
          try dsimp only [Act.put]
          try simp only [List.setIfInBounds_toArray, List.set_cons_zero, List.set_cons_succ]
          refine wpAnyH_take (i := 15) (v := ?_) (op_of rfl) (by kernel_rfl) (by kernel_rfl) (by kernel_rfl) (fun _ _ _ h => h) (Or.inl ⟨by rfl, fun W hS => ?_⟩) (by assumption) ?_
          rotate_left
          · dsimp only at hS
            go_simp
            try with_reducible rfl
          try dsimp only [Act.put]
          try simp only [List.setIfInBounds_toArray, List.set_cons_zero, List.set_cons_succ]
          refine wpAnyH_take (i := 16) (v := ?_) (op_of rfl) (by kernel_rfl) (by kernel_rfl) (by kernel_rfl) (fun _ _ _ h => h) (Or.inl ⟨by rfl, fun W hS => ?_⟩) (by assumption) ?_
          rotate_left
          · dsimp only at hS
            go_simp
            try with_reducible rfl
          try dsimp only [Act.put]
          try simp only [List.setIfInBounds_toArray, List.set_cons_zero, List.set_cons_succ]
          refine wpAnyH_ready (rs := [17]) (by kernel_rfl) (by simp) (AllReadyH.cons (op_of rfl) (fun K hK => ?_) AllReadyH.nil)
          have q := HCELL.out
          have fz := own_frozen HO.out m (by omega)
          go_simp
          have HB := Lib.hid (HB.out.setCell (p := ⟨gb, m, none⟩) hgb (.string (t ++ ⟨#[x]⟩)))
          have HO := Lib.hid (ownsRow_put HO.out m (.string (t ++ ⟨#[x]⟩)))
          refine hK.out _ _ HBS.out (fun hHeld => ?_)
          clear hK K
          try dsimp only [Act.put]
          try simp only [List.setIfInBounds_toArray, List.set_cons_zero, List.set_cons_succ]
          refine wpAnyH_done (by kernel_rfl) ?_ _
          go_wp2_with fail
          go_roundw
          case rel => exact ⟨k + 1, m + 1, cp, some ⟨gb, 0, none⟩, rfl, by go_num, by omega, by rw [HC.out, List.length_set]; exact HN.out, hcp, by rw [HC.out, ← strs_set]; exact HO, HB⟩
          case measure => simp [intOf]; omega
        · skip
          go_simp
          have hb := b1' wn (.cells #[.int .u8 (x.toNat : Int)] 5)
          have HCV := Lib.hid (one_str wn x)
          have HO := Lib.hid (HO.out.alloc (.cells #[.int .u8 (x.toNat : Int)] 5))
          have HCELL := Lib.hid ((hb.cell (World.block_lt_of_cell? _ _ HCELL.out)).trans HCELL.out)
          have HB := Lib.hid (HB.out.trans (hb.mono HB.out.size))
          obtain ⟨wn, hw⟩ : ∃ W, wn.alloc (.cells #[.int .u8 (x.toNat : Int)] 5) = W := ⟨_, rfl⟩
          rw [hw] at HCV HO HCELL HB
          rw [hw]
          clear hb hw
          refine hK.out _ _ HBS.out (fun hHeld => ?_)
          clear hK K
          try dsimp only [Act.put]
          try simp only [List.setIfInBounds_toArray, List.set_cons_zero, List.set_cons_succ]
          refine wpAnyH_ready (rs := [9, 14]) (by kernel_rfl) (by simp) (AllReadyH.cons (op_of rfl) (fun K hK => ?_) (AllReadyH.cons (op_of rfl) (fun K hK => ?_) AllReadyH.nil))
          · skip
            have q := HCELL.out
            go_simp
            refine hK.out _ _ HBS.out (fun hHeld => ?_)
            clear hK K
            try dsimp only [Act.put]
            try simp only [List.setIfInBounds_toArray, List.set_cons_zero, List.set_cons_succ]
            refine wpAnyH_ready (rs := [14]) (by kernel_rfl) (by simp) (AllReadyH.cons (op_of rfl) (fun K hK => ?_) AllReadyH.nil)
            have q := HCV.out
            go_simp
            refine hK.out _ _ HBS.out (fun hHeld => ?_)
            clear hK K
            try dsimp only [Act.put]
            try simp only [List.setIfInBounds_toArray, List.set_cons_zero, List.set_cons_succ]
            refine wpAnyH_take (i := 15) (v := ?_) (op_of rfl) (by kernel_rfl) (by kernel_rfl) (by kernel_rfl) (fun _ _ _ h => h) (Or.inl ⟨by rfl, fun W hS => ?_⟩) (by assumption) ?_
            rotate_left
            · dsimp only at hS
              go_simp
              try with_reducible rfl
            try dsimp only [Act.put]
            try simp only [List.setIfInBounds_toArray, List.set_cons_zero, List.set_cons_succ]
            refine wpAnyH_take (i := 16) (v := ?_) (op_of rfl) (by kernel_rfl) (by kernel_rfl) (by kernel_rfl) (fun _ _ _ h => h) (Or.inl ⟨by rfl, fun W hS => ?_⟩) (by assumption) ?_
            rotate_left
            · dsimp only at hS
              go_simp
              try with_reducible rfl
            try dsimp only [Act.put]
            try simp only [List.setIfInBounds_toArray, List.set_cons_zero, List.set_cons_succ]
            refine wpAnyH_ready (rs := [17]) (by kernel_rfl) (by simp) (AllReadyH.cons (op_of rfl) (fun K hK => ?_) AllReadyH.nil)
            have q := HCELL.out
            have fz := own_frozen HO.out m (by omega)
            go_simp
            have HB := Lib.hid (HB.out.setCell (p := ⟨gb, m, none⟩) hgb (.string (t ++ ⟨#[x]⟩)))
            have HO := Lib.hid (ownsRow_put HO.out m (.string (t ++ ⟨#[x]⟩)))
            refine hK.out _ _ HBS.out (fun hHeld => ?_)
            clear hK K
            try dsimp only [Act.put]
            try simp only [List.setIfInBounds_toArray, List.set_cons_zero, List.set_cons_succ]
            refine wpAnyH_done (by kernel_rfl) ?_ _
            go_wp2_with fail
            go_roundw
            case rel => exact ⟨k + 1, m + 1, cp, some ⟨gb, 0, none⟩, rfl, by go_num, by omega, by rw [HC.out, List.length_set]; exact HN.out, hcp, by rw [HC.out, ← strs_set]; exact HO, HB⟩
            case measure => simp [intOf]; omega
          · skip
            have q := HCV.out
            go_simp
            refine hK.out _ _ HBS.out (fun hHeld => ?_)
            clear hK K
            try dsimp only [Act.put]
            try simp only [List.setIfInBounds_toArray, List.set_cons_zero, List.set_cons_succ]
            refine wpAnyH_ready (rs := [9]) (by kernel_rfl) (by simp) (AllReadyH.cons (op_of rfl) (fun K hK => ?_) AllReadyH.nil)
            have q := HCELL.out
            go_simp
            refine hK.out _ _ HBS.out (fun hHeld => ?_)
            clear hK K
            try dsimp only [Act.put]
            try simp only [List.setIfInBounds_toArray, List.set_cons_zero, List.set_cons_succ]
            refine wpAnyH_take (i := 15) (v := ?_) (op_of rfl) (by kernel_rfl) (by kernel_rfl) (by kernel_rfl) (fun _ _ _ h => h) (Or.inl ⟨by rfl, fun W hS => ?_⟩) (by assumption) ?_
            rotate_left
            · dsimp only at hS
              go_simp
              try with_reducible rfl
            try dsimp only [Act.put]
            try simp only [List.setIfInBounds_toArray, List.set_cons_zero, List.set_cons_succ]
            refine wpAnyH_take (i := 16) (v := ?_) (op_of rfl) (by kernel_rfl) (by kernel_rfl) (by kernel_rfl) (fun _ _ _ h => h) (Or.inl ⟨by rfl, fun W hS => ?_⟩) (by assumption) ?_
            rotate_left
            · dsimp only at hS
              go_simp
              try with_reducible rfl
            try dsimp only [Act.put]
            try simp only [List.setIfInBounds_toArray, List.set_cons_zero, List.set_cons_succ]
            refine wpAnyH_ready (rs := [17]) (by kernel_rfl) (by simp) (AllReadyH.cons (op_of rfl) (fun K hK => ?_) AllReadyH.nil)
            have q := HCELL.out
            have fz := own_frozen HO.out m (by omega)
            go_simp
            have HB := Lib.hid (HB.out.setCell (p := ⟨gb, m, none⟩) hgb (.string (t ++ ⟨#[x]⟩)))
            have HO := Lib.hid (ownsRow_put HO.out m (.string (t ++ ⟨#[x]⟩)))
            refine hK.out _ _ HBS.out (fun hHeld => ?_)
            clear hK K
            try dsimp only [Act.put]
            try simp only [List.setIfInBounds_toArray, List.set_cons_zero, List.set_cons_succ]
            refine wpAnyH_done (by kernel_rfl) ?_ _
            go_wp2_with fail
            go_roundw
            case rel => exact ⟨k + 1, m + 1, cp, some ⟨gb, 0, none⟩, rfl, by go_num, by omega, by rw [HC.out, List.length_set]; exact HN.out, hcp, by rw [HC.out, ← strs_set]; exact HO, HB⟩
            case measure => simp [intOf]; omega
    · obtain rfl : k = s.size := by omega
      go_wp2_with fail
      go_ret
      exact ⟨_, _, _, rfl, HO.out, HB.out⟩
end Go.Proofs.YtbhdibeiojeadaaDoor
