/-
  Arrows: slices.Backward over ints; package dag's free: the numbers to which no arrow leads.
-/
import Derived.Test.YtojdgcalpdbifaaDagE
import Derived.Test.YtojdgcalpdbifaaMB
import Derived.RangeFuncCalls
namespace Go.Proofs.Ytojdgcalpdbifaa
open Go.RowKit Go.Shelf
attribute [local go_sem] Oper.semAt_some
set_option maxRecDepth 100000

/-- Those below n for which h is 0, the greatest first: of the last k. -/
def fr13 (h : Nat → Nat) (n : Nat) : Nat → List Nat
  | 0 => []
  | k + 1 => fr13 h n k ++ if h (n - 1 - k) = 0 then [n - 1 - k] else []
theorem fr13_mem {h : Nat → Nat} {n k j : Nat} (hk : k ≤ n) : j ∈ fr13 h n k ↔ j < n ∧ n - k ≤ j ∧ h j = 0 := by
  induction k with
  | zero => simp [fr13]; omega
  | succ k ih =>
    rw [fr13, List.mem_append, ih (by omega)]
    by_cases h0 : h (n - 1 - k) = 0
    · rw [if_pos h0, List.mem_singleton]
      constructor
      · rintro (⟨h1, h2, h3⟩ | rfl)
        · exact ⟨h1, by omega, h3⟩
        · exact ⟨by omega, by omega, h0⟩
      · rintro ⟨h1, h2, h3⟩
        rcases (show n - k ≤ j ∨ j = n - 1 - k by omega) with h4 | h4
        · exact .inl ⟨h1, h4, h3⟩
        · exact .inr h4
    · rw [if_neg h0]
      constructor
      · rintro (⟨h1, h2, h3⟩ | h)
        · exact ⟨h1, by omega, h3⟩
        · cases h
      · rintro ⟨h1, h2, h3⟩
        rcases (show n - k ≤ j ∨ j = n - 1 - k by omega) with h4 | h4
        · exact .inl ⟨h1, h4, h3⟩
        · subst h4
          exact absurd h3 h0
theorem fr13_fall {h : Nat → Nat} {n k : Nat} (hk : k ≤ n) : Fall (fr13 h n k) := by
  induction k with
  | zero => exact List.Pairwise.nil
  | succ k ih =>
    unfold Fall
    rw [fr13, List.pairwise_append]
    refine ⟨ih (by omega), ?_, ?_⟩
    · split
      · exact List.pairwise_singleton _ _
      · exact List.Pairwise.nil
    · intro a ha b hb
      have h1 := (fr13_mem (by omega)).1 ha
      split at hb
      · rw [List.mem_singleton] at hb
        omega
      · cases hb
theorem fr13_len (h : Nat → Nat) (n k : Nat) : (fr13 h n k).length ≤ k := by
  induction k with
  | zero => exact Nat.le_refl _
  | succ k ih =>
    rw [fr13, List.length_append]
    split <;> simp <;> omega

/-- What the k-th round is handed. -/
def benc13 (h : Nat → Nat) (N k : Nat) : Array Value := #[.int .i64 ((N - 1 - k : Nat) : Int), .int .i64 ((h (N - 1 - k) : Nat) : Int)]
/-- What must stay behind each round. -/
def bkeep13 (Bs I _ : Nat) (p : Addr) : Prop := p.block = Bs ∨ p.block = I

set_option maxHeartbeats 2000000 in
theorem back13_goes (F : Fence) (n : Nat) (hf : F.fn 30) (hro : F.round = none) (hn : 1 ≤ n) (Bs I N c : Nat) (h : Nat → Nat) (w : World) (hi : Ib13 w I N h) (hN : N ≤ 1000000)
    (hb : w.cell? ⟨Bs, 0, none⟩ = some (.slice (some ⟨I, 0, none⟩) N c)) :
    Goes F n Try.prog 30 #[.pointer (some ⟨Bs, 0, none⟩)] (benc13 h N) (bkeep13 Bs I) N w := fun l J Jx W hW _ _ hY h0 => by
  have hBs := World.block_lt_of_cell? w _ hb
  have hb1 := (hW.cell hBs).trans hb
  have hi1 := hi.below hW hi.lt
  clear hb hi
  refine callsIn_of_wp Try.func30 rfl hf ?_ hro
  simp only [Try.ntmps30, List.size_toArray, List.length_cons, List.length_nil, Nat.reduceAdd, Nat.reduceSub, Array.replicate_succ, Array.replicate_zero, List.push_toArray, List.append_toArray, List.nil_append, List.cons_append]
  gi_wp2
  gi_loopw [3] (fun i wr => ∃ (m : Nat) (j : Int), i = .int .i64 j ∧ j + 1 = (m : Int) ∧ m ≤ N ∧ J (N - m) wr ∧ wr.cell? ⟨Bs, 0, none⟩ = some (.slice (some ⟨I, 0, none⟩) N c) ∧ Hid (∀ t, t < N → wr.cell? ⟨I, t, none⟩ = some (.int .i64 ((h t : Nat) : Int))))
    (fun i _ => (intOf i + 1).toNat)
  case atStart =>
    exact ⟨N, _, rfl, by omega, Nat.le_refl _, by rw [Nat.sub_self]; exact h0, hb1, Lib.hid (fun t ht => (hi1.cells ht).1)⟩
  case round =>
    obtain ⟨m, j, rfl, hj, hm, hJ, hbx, HC⟩ := hrel
    by_cases hpos : 0 < m
    · obtain ⟨q, rfl⟩ : ∃ q, m = q + 1 := ⟨m - 1, by omega⟩
      obtain rfl : j = (q : Int) := by omega
      have hcx := HC.out q (by omega)
      have hq0 : (0 : Int) ≤ (q : Int) := by omega
      have hq1 : (q : Int) < (N : Int) := by omega
      obtain ⟨fn, tmps, assign, body, hy, hR⟩ := hY (N - (q + 1)) wr (by omega) hJ
      have he : N - 1 - (N - (q + 1)) = q := by omega
      simp only [benc13, he] at hy
      clear he
      gi_wp2
      refine hR.mono ?_
      rintro e W3 (⟨rfl, hJ3, hk3⟩ | ⟨rfl, hJx3⟩)
      · have HS : Hid (Same (bkeep13 Bs I (N - (q + 1))) wr W3) := Lib.hid hk3
        have HJ := Lib.hid hJ3
        clear hk3 hJ3 hJ
        gi_wp2
        go_roundw
        case rel =>
          exact ⟨q, _, rfl, by omega, by omega, by have := HJ.out; rwa [show N - (q + 1) + 1 = N - q by omega] at this, HS.out.cell _ _ (.inl rfl) hbx, Lib.hid (fun t ht => HS.out.cell _ _ (.inr rfl) (HC.out t ht))⟩
        case measure => first | (simp [intOf]; done) | (simp [intOf]; omega)
      · gi_wp2
        refine bodyPost_ret (results_none rfl _ _ _) rfl ?_
        exact ⟨⟨_, rfl⟩, .inr ⟨_, by omega, hJx3⟩⟩
    · obtain rfl : m = 0 := by omega
      obtain rfl : j = -1 := by omega
      have HJ : Hid (J N wr) := Lib.hid (by simpa using hJ)
      clear hJ
      gi_wp2
      go_end0
      exact ⟨⟨_, rfl⟩, .inl HJ.out⟩

set_option maxHeartbeats 1000000 in
theorem back13_calls (A : Option Addr) (N c : Nat) (w : World) :
    Calls Try.prog 26 #[.slice A N c] w fun e w' => e = .returned (.func (.func 30) #[] #[.pointer (some ⟨w.heap.size, 0, none⟩)]) ∧ w' = w.alloc (.cells #[.slice A N c] 29) := by
  have hmf : ∀ (fn : Fn) (first cap : Array Value) (w : World), (Instr.makeFunc fn first cap).run Try.prog w = .ok (.func fn first cap) w := fun _ _ _ _ => rfl
  go_enter Try.func26, Try.ntmps26
  go_wp2_with fail
  go_ret
  exact ⟨rfl, rfl⟩

set_option maxHeartbeats 4000000 in
theorem free13_any {E I n : Nat} {A : List (Nat × Nat)} (w : World) (h : Gr13 w w.heap.size E I n A) :
    Calls Try.prog 22 #[gv13 E I n] w (RetI w (fr13 (rem13 A []) n n)) := by
  have hn := h.most
  have hIb := h.ib
  have HG := Lib.hid h
  obtain ⟨hh, hhe⟩ : ∃ f, rem13 A [] = f := ⟨_, rfl⟩
  have HI : Hid (Ib13 w I n hh) := Lib.hid (by rw [← hhe]; exact h.into)
  rw [hhe]
  have HP : Hid (RetI w (fr13 hh n n) = fun e w' => ∃ A c, e = .returned (.slice A (fr13 hh n n).length c) ∧ w'.ownsRow w.heap.size 3 1 (.slice A (fr13 hh n n).length c) (fr13 hh n n).length (ints (fr13 hh n n)) ∧ Below w.heap.size w w') := Lib.hid rfl
  have hbx := (Blk.new w 43 #[.slice (some ⟨E, 0, none⟩) n n, .slice (some ⟨I, 0, none⟩) n n]).alloc (.cells #[.slice none 0 0] 29)
  have c1 := hbx.cell 1
  have HA := Lib.hid (fun W => back13_calls (some ⟨I, 0, none⟩) n n W)
  unfold gv13
  clear h hhe hbx
  refine calls_of_leave Try.func22 rfl ?_
  simp only [Try.ntmps22, List.size_toArray, List.length_cons, List.length_nil, Nat.reduceAdd, Nat.reduceSub, Array.replicate_succ, Array.replicate_zero, List.push_toArray, List.append_toArray, List.nil_append, List.cons_append]
  go_wp2_with fail
  refine (HA.out _).mono ?_
  rintro e W0 ⟨rfl, hW0⟩
  have hsz0 : W0.heap.size = w.heap.size + 1 + 1 + 1 := by rw [hW0]; simp
  have hb0 : Below w.heap.size w W0 := by rw [hW0]; exact ((b1' w _).trans ((b1' _ _).mono (by simp))).trans ((b1' _ _).mono (by simp; omega))
  have f3 : Blk W0 (w.heap.size + 1) 29 #[.slice none 0 0] := by
    rw [hW0]
    have h2 := (Blk.new (w.alloc (.cells #[.slice (some ⟨E, 0, none⟩) n n, .slice (some ⟨I, 0, none⟩) n n] 43)) 29 #[.slice none 0 0]).alloc (.cells #[.slice (some ⟨I, 0, none⟩) n n] 29)
    rw [World.size_alloc] at h2
    exact h2
  have f2 : W0.cell? ⟨w.heap.size + 1 + 1, 0, none⟩ = some (.slice (some ⟨I, 0, none⟩) n n) := by
    rw [hW0]
    have h2 := (Blk.new ((w.alloc (.cells #[.slice (some ⟨E, 0, none⟩) n n, .slice (some ⟨I, 0, none⟩) n n] 43)).alloc (.cells #[.slice none 0 0] 29)) 29 #[.slice (some ⟨I, 0, none⟩) n n]).cell 0
    rw [World.size_alloc, World.size_alloc] at h2
    exact h2
  have hgo := back13_goes Fence.wide 4 trivial rfl (by omega) (w.heap.size + 1 + 1) I n n hh W0 (HI.out.below hb0 hIb) (by omega) f2
  have HI0 : Hid (RowMem w (w.heap.size + 1) (w.heap.size + 3) (fr13 hh n 0) W0) := Lib.hid ⟨hb0, by omega, none, 0, f3, World.ownsRow_nil _ _ _ _⟩
  clear f2 f3 hb0 hW0 c1
  go_wp2_with fail
  refine (wpIn_wide (n := 5)).1 ?_
  refine wpIn_rangeFunc_goes rfl (by omega) (gf := 30) (lb := #[.pointer (some ⟨w.heap.size + 1 + 1, 0, none⟩)]) rfl trivial (enters_of Try.func30 (by kernel_rfl) rfl)
    hgo (fun k p hp => by show p.block < W0.heap.size; rcases hp with h | h <;> omega) (Below.refl _ _) (fun _ => rfl)
    (fun k W => RowMem w (w.heap.size + 1) (w.heap.size + 3) (fr13 hh n k) W)
    (fun c k W => False)
    (fun s X Y row hs hg hr => hs.kept hg (by omega) hr)
    (fun c s X Y row hs hg hr => hs.elim)
    HI0.out ?round ?done ?stop
  case round =>
    intro l k W hk _
    simp only [benc13]
    gi_wp2
    refine ⟨trivial, ?_⟩
    intro Wb hm
    obtain ⟨A5, c5, hb5, hown5⟩ := hm.row
    obtain ⟨m, hlm⟩ : ∃ m, (fr13 hh n k).length = m := ⟨_, rfl⟩
    have hml := fr13_len hh n k
    rw [hlm] at hb5 hown5 hml
    have c1 := hb5.cell 0
    have f1 := hb5.frozen 0
    have HM := Lib.hid hm
    have HB5 := Lib.hid hb5
    have HO5 := Lib.hid hown5
    have HBS := hm.bsz
    have HLM := Lib.hid hlm
    obtain ⟨x, hx⟩ : ∃ x, n - 1 - k = x := ⟨_, rfl⟩
    have hnx : fr13 hh n (k + 1) = fr13 hh n k ++ if hh x = 0 then [x] else [] := by rw [fr13, hx]
    rw [hx]
    clear hm hb5 hown5 hlm
    by_cases hz : hh x = 0
    · have HNX : Hid (fr13 hh n (k + 1) = fr13 hh n k ++ [x]) := Lib.hid (by rw [hnx, if_pos hz])
      rw [hz]
      clear hnx hz hx
      gi_wp2_with (gi_at_builtin; refine wpListIn_append_11 _ rfl (.tmp 13) (.tmp 15) 29 rfl (w.heap.size + 3) 3 Try.underlying29 (.int .i64 0) 8 info_int11 rfl (.slice A5 m c5) m _ rfl (own7_keep HO5.out (b1' _ _)) _ (.int .i64 (x : Int)) rfl ((Blk.new _ _ _).cell 0) rfl (by omega) (by omega) (by simp; omega) ?_)
      intro A6 c6 W6 hc6 h6 hg6
      obtain ⟨hn1, hn2, hn3, hn4⟩ := HM.out.next (by omega) (by omega) HLM.out HB5.out HO5.out hg6 h6.out
      have c6' := hn2.cell 0
      have f6' := hn2.frozen 0
      have HN1 := Lib.hid hn1
      have HN3 := Lib.hid hn3
      have HSM : Hid (Same (bkeep13 (w.heap.size + 1 + 1) I k) Wb W6) := Lib.hid (Same.of_below hn4 (fun p hp => by rcases hp with h | h <;> omega))
      clear hn1 hn2 hn3 hn4 h6 hg6
      gi_wp2_with fail
      refine ⟨(HN3.out.trans (KeepsOthers.setCell _ _ _)).from _, HSM.out.trans (Same.setCell (fun p hp e => ?_) _), ?_⟩
      · simp only at e
        rcases hp with h | h <;> omega
      · show RowMem w _ _ (fr13 hh n (k + 1)) _
        rw [HNX.out]
        exact HN1.out
    · have HNX : Hid (fr13 hh n (k + 1) = fr13 hh n k) := Lib.hid (by rw [hnx, if_neg hz, List.append_nil])
      have hz2 : ¬ ((hh x : Nat) : Int) = 0 := by omega
      obtain ⟨y, hy⟩ : ∃ y, hh x = y := ⟨_, rfl⟩
      rw [hy] at hz2 ⊢
      clear hnx hz hx hy
      gi_wp2_with fail
      refine ⟨(KeepsOthers.refl _).from _, Same.refl _ _, ?_⟩
      show RowMem w _ _ (fr13 hh n (k + 1)) _
      rw [HNX.out]
      exact HM.out
  case done =>
    rintro D W hD hm hK
    obtain ⟨A5, c5, hb5, hown5⟩ := hm.row
    have c1 := hb5.cell 0
    have HB := Lib.hid (mark_below hm.below hK (by omega))
    have HO := Lib.hid (own11_kept hown5 (grownBy_putObj' _ D (.deferred none)) (fun r e => by cases e; exact ⟨_, hK, rfl⟩))
    have HK := Lib.hid hK
    obtain ⟨m, hlm⟩ : ∃ m, (fr13 hh n n).length = m := ⟨_, rfl⟩
    rw [hlm] at c1 HO HP
    clear hm hK hb5 hown5 hlm
    go_wp2_with fail
    rw [HP.out]
    exact leave_mark (v := .slice A5 m c5) HK.out (by simp [results, Try.results22, go_sem]) ⟨A5, c5, rfl, own7_base HO.out (by omega), HB.out⟩
  case stop =>
    rintro D c k W hD hk h hK
    exact h.elim
end Go.Proofs.Ytojdgcalpdbifaa
