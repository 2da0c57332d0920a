/-
  SaidLiveOff, part 8 of 15: what the theorem liveOff_holds reaches.
-/
import Derived.Test.YtllcmjdfgbiijaaLO7
namespace Go.Proofs.Ytllcmjdfgbiijaa
open Go.RowKit
set_option maxRecDepth 100000
/-- Does a thread live? -/
def Liv16 (S : Sv14) (i : Int) : Prop := ∃ (k : Nat) (l : List Nat), i = (k : Int) ∧ us14 usH S.H i = true ∧ Chn16 S k l ∧ ((gt14 S.H (lst16 l)).s = 2 ∨ (gt14 S.H (lst16 l)).s = 3)
/-- Which tickets count. -/
inductive Cnt17 (S : Sv14) : Nat → Prop
  | thr {k : Nat} : k < S.T.length → (gt14 S.T k).u = true → (gt14 S.T k).o = true → (gt14 S.T k).k = 1 → Liv16 S (gt14 S.T k).t → Cnt17 S k
  | coin {k j : Nat} : k < S.T.length → (gt14 S.T k).u = true → (gt14 S.T k).o = true → (gt14 S.T k).k = 2 → (gt14 S.T j).c = (gt14 S.T k).t → Cnt17 S j → Cnt17 S k
theorem cnt17_iff {S : Sv14} {k : Nat} : Cnt17 S k ↔ k < S.T.length ∧ (gt14 S.T k).u = true ∧ (gt14 S.T k).o = true ∧ ((gt14 S.T k).k = 1 ∧ Liv16 S (gt14 S.T k).t ∨ (gt14 S.T k).k = 2 ∧ ∃ j, (gt14 S.T j).c = (gt14 S.T k).t ∧ Cnt17 S j) := by
  constructor
  · intro h
    cases h with
    | thr h1 h2 h3 h4 h5 => exact ⟨h1, h2, h3, .inl ⟨h4, h5⟩⟩
    | coin h1 h2 h3 h4 h5 h6 => exact ⟨h1, h2, h3, .inr ⟨h4, _, h5, h6⟩⟩
  · rintro ⟨h1, h2, h3, ⟨h4, h5⟩ | ⟨h4, j, h5, h6⟩⟩
    · exact .thr h1 h2 h3 h4 h5
    · exact .coin h1 h2 h3 h4 h5 h6
theorem Cnt17.lt {S : Sv14} {k : Nat} (h : Cnt17 S k) : k < S.T.length ∧ (gt14 S.T k).u = true := ⟨(cnt17_iff.1 h).1, (cnt17_iff.1 h).2.1⟩
open Classical in
noncomputable def cntb17 (S : Sv14) (k : Nat) : Bool := decide (Cnt17 S k)
theorem cntb17_yes {S : Sv14} {k : Nat} : cntb17 S k = true ↔ Cnt17 S k := by
  unfold cntb17
  exact @decide_eq_true_iff _ (Classical.propDecidable _)
theorem cntb17_no {S : Sv14} {k : Nat} : cntb17 S k = false ↔ ¬ Cnt17 S k := by
  rw [← cntb17_yes, Bool.not_eq_true]
/-- A coin's active amount, by the first n tickets. -/
noncomputable def amt17 (S : Sv14) (c : Int) : Nat → Int
  | 0 => 0
  | n + 1 => amt17 S c n + if (gt14 S.T n).c = c ∧ cntb17 S n = true then (gt14 S.T n).a else 0
theorem amt17_bound {S : Sv14} (hT : Tickets14 S) (c : Int) (n : Nat) : 0 ≤ amt17 S c n ∧ amt17 S c n ≤ (n : Int) * 1048576 := by
  induction n with
  | zero => simp [amt17]
  | succ n ih =>
    rw [amt17]
    split
    · next h =>
      have h1 := (cntb17_yes.1 h.2).lt
      have h2 := hT n h1.1 h1.2
      have := h2.2.1
      have := h2.2.2.1
      omega
    · omega
theorem amt17_pos {S : Sv14} (hT : Tickets14 S) (c : Int) (n : Nat) : 0 < amt17 S c n ↔ ∃ j, j < n ∧ (gt14 S.T j).c = c ∧ Cnt17 S j := by
  induction n with
  | zero => simp [amt17]
  | succ n ih =>
    have hb := amt17_bound hT c n
    rw [amt17]
    constructor
    · intro h
      split at h
      · next h1 => exact ⟨n, by omega, h1.1, cntb17_yes.1 h1.2⟩
      · obtain ⟨j, h2, h3⟩ := ih.1 (by omega)
        exact ⟨j, by omega, h3⟩
    · rintro ⟨j, h1, h2, h3⟩
      rcases (show j < n ∨ j = n by omega) with h4 | rfl
      · have h5 := ih.2 ⟨j, h4, h2, h3⟩
        split
        · next h =>
          have h6 := (cntb17_yes.1 h.2).lt
          have h7 := (hT n h6.1 h6.2).2.1
          omega
        · omega
      · rw [if_pos ⟨h2, cntb17_yes.2 h3⟩]
        have h7 := (hT j h3.lt.1 h3.lt.2).2.1
        omega
/-- Of all tickets. -/
theorem amt17_all {S : Sv14} (hT : Tickets14 S) (c : Int) : 0 < amt17 S c S.T.length ↔ ∃ j, (gt14 S.T j).c = c ∧ Cnt17 S j := by
  rw [amt17_pos hT]
  exact ⟨fun ⟨j, _, h⟩ => ⟨j, h⟩, fun ⟨j, h1, h2⟩ => ⟨j, h2.lt.1, h1, h2⟩⟩
/-- A ticket that is turned on, or off. -/
def set17 (S : Sv14) (k : Nat) (o : Bool) : Sv14 := { S with T := S.T.set k { gt14 S.T k with o := o } }
theorem set17_len (S : Sv14) (k : Nat) (o : Bool) : (set17 S k o).T.length = S.T.length := by simp [set17]
theorem set17_gt {S : Sv14} {k : Nat} {o : Bool} (hk : k < S.T.length) (j : Nat) : gt14 (set17 S k o).T j = if j = k then { gt14 S.T k with o := o } else gt14 S.T j := by
  unfold set17 gt14
  simp only [List.getD_eq_getElem?_getD, List.getElem?_set]
  by_cases h : k = j
  · subst h
    simp [hk]
  · rw [if_neg h, if_neg (fun e => h e.symm)]
theorem set17_same {S : Sv14} {k : Nat} {o : Bool} (hk : k < S.T.length) (j : Nat) : (gt14 (set17 S k o).T j).u = (gt14 S.T j).u ∧ (gt14 (set17 S k o).T j).c = (gt14 S.T j).c ∧ (gt14 (set17 S k o).T j).a = (gt14 S.T j).a ∧ (gt14 (set17 S k o).T j).k = (gt14 S.T j).k ∧ (gt14 (set17 S k o).T j).t = (gt14 S.T j).t := by
  rw [set17_gt hk]
  split
  · next h => subst h; exact ⟨rfl, rfl, rfl, rfl, rfl⟩
  · exact ⟨rfl, rfl, rfl, rfl, rfl⟩
theorem set17_c {S : Sv14} {k : Nat} {o : Bool} (hk : k < S.T.length) : ∀ n, cArr14 (set17 S k o) n = cArr14 S n
  | 0 => rfl
  | n + 1 => by
    obtain ⟨h1, h2, h3, h4, h5⟩ := set17_same (o := o) hk n
    rw [cArr14, cArr14, set17_c hk n, h1, h2, h4, h5]
theorem set17_t (S : Sv14) (k : Nat) (o : Bool) : ∀ n, tArr14 (set17 S k o) n = tArr14 S n
  | 0 => rfl
  | n + 1 => by rw [tArr14, tArr14, set17_t S k o n]; rfl
theorem set17_want (S : Sv14) (k : Nat) (o : Bool) : ∀ n, want14 (set17 S k o) n = want14 S n
  | 0 => rfl
  | n + 1 => by rw [want14, want14, set17_want S k o n]; rfl
theorem en17_set {S : Sv14} {k : Nat} {o : Bool} (hk : k < S.T.length) : ∀ n, en14 usT (set17 S k o).T n = en14 usT S.T n
  | 0 => rfl
  | n + 1 => by
    have h1 := (set17_same (o := o) hk n).1
    rw [en14, en14, en17_set hk n]
    unfold usT
    rw [h1]
/-- It may be, if the state may be. -/
theorem fine17_set {S : Sv14} (h : Fine14 S) {k : Nat} (hk : k < S.T.length) (hu : (gt14 S.T k).u = true) (o : Bool) : Fine14 (set17 S k o) := by
  obtain ⟨q1, q2, ⟨t0, t1, t2, t3⟩, hc, hT, hH, hL, hQ, f0, f1⟩ := h
  refine ⟨q1, q2, ⟨t0, ⟨?_, ?_, ?_⟩, t2, t3⟩, hc, ?_, hH, hL, ⟨hQ.1, hQ.2.1, by rw [set17_want]; exact hQ.2.2⟩, ?_, ?_⟩
  · rw [set17_len]
    exact t1.1
  · rw [set17_len, en17_set hk]
    exact t1.2.1
  · intro j hj hn
    rw [set17_len] at hj
    rw [set17_gt hk] at hn ⊢
    split
    · next h =>
      subst h
      rw [if_pos rfl] at hn
      have : (gt14 S.T j).u = false := hn
      rw [hu] at this
      cases this
    · next h =>
      rw [if_neg h] at hn
      exact t1.2.2 j hj hn
  · intro j hj hn
    rw [set17_len] at hj
    obtain ⟨h1, h2, h3, h4, h5⟩ := set17_same (o := o) hk j
    have hn2 : usT (gt14 S.T j) = true := by unfold usT at hn ⊢; rw [← h1]; exact hn
    have h6 := hT j hj hn2
    refine ⟨by rw [h2]; exact h6.1, by rw [h3]; exact h6.2.1, by rw [h3]; exact h6.2.2.1, ?_⟩
    have h7 := h6.2.2.2
    unfold Target14 at h7 ⊢
    rw [h4, h5]
    exact h7
  · rw [set17_c hk, set17_len]
    exact f0
  · rw [set17_t]
    exact f1
theorem chn17_set {S : Sv14} {k : Nat} {o : Bool} {i : Nat} {l : List Nat} (h : Chn16 (set17 S k o) i l) : Chn16 S i l := by
  induction h with
  | one h => exact .one h
  | step h _ ih => exact .step h ih
theorem chn17_to {S : Sv14} {k : Nat} {o : Bool} {i : Nat} {l : List Nat} (h : Chn16 S i l) : Chn16 (set17 S k o) i l := by
  induction h with
  | one h => exact .one h
  | step h _ ih => exact .step h ih
theorem liv17_set {S : Sv14} {k : Nat} {o : Bool} {i : Int} : Liv16 (set17 S k o) i ↔ Liv16 S i := by
  constructor
  · rintro ⟨x, l, h1, h2, h3, h4⟩
    exact ⟨x, l, h1, h2, chn17_set h3, h4⟩
  · rintro ⟨x, l, h1, h2, h3, h4⟩
    exact ⟨x, l, h1, h2, chn17_to h3, h4⟩
/-- What counts with k off counts with k on. -/
theorem cnt17_mono {S : Sv14} {k : Nat} (hk : k < S.T.length) {j : Nat} (h : Cnt17 (set17 S k false) j) : Cnt17 (set17 S k true) j := by
  have ho : ∀ j, (gt14 (set17 S k false).T j).o = true → (gt14 (set17 S k true).T j).o = true := by
    intro j
    rw [set17_gt hk, set17_gt hk]
    split
    · exact fun _ => rfl
    · exact id
  have hs : ∀ j, (gt14 (set17 S k false).T j).u = (gt14 (set17 S k true).T j).u ∧ (gt14 (set17 S k false).T j).c = (gt14 (set17 S k true).T j).c ∧ (gt14 (set17 S k false).T j).k = (gt14 (set17 S k true).T j).k ∧ (gt14 (set17 S k false).T j).t = (gt14 (set17 S k true).T j).t := by
    intro j
    obtain ⟨a1, a2, _, a4, a5⟩ := set17_same (o := false) hk j
    obtain ⟨b1, b2, _, b4, b5⟩ := set17_same (o := true) hk j
    exact ⟨a1.trans b1.symm, a2.trans b2.symm, a4.trans b4.symm, a5.trans b5.symm⟩
  induction h with
  | @thr j h1 h2 h3 h4 h5 =>
    obtain ⟨s1, s2, s3, s4⟩ := hs j
    refine .thr (by rw [set17_len] at h1 ⊢; exact h1) (by rw [← s1]; exact h2) (ho j h3) (by rw [← s3]; exact h4) ?_
    rw [← s4]
    exact liv17_set.2 (liv17_set.1 h5)
  | @coin j x h1 h2 h3 h4 h5 _ ih =>
    obtain ⟨s1, s2, s3, s4⟩ := hs j
    exact .coin (j := x) (by rw [set17_len] at h1 ⊢; exact h1) (by rw [← s1]; exact h2) (ho j h3) (by rw [← s3]; exact h4) (by rw [← s4, ← (hs x).2.1]; exact h5) ih
theorem cnt17_off {S : Sv14} {k : Nat} (hk : k < S.T.length) : ¬ Cnt17 (set17 S k false) k := fun h => by
  have h1 := (cnt17_iff.1 h).2.2.1
  rw [set17_gt hk, if_pos rfl] at h1
  cases h1
theorem amt17_mono {S : Sv14} {k : Nat} (hk : k < S.T.length) (hT : Tickets14 S) (c : Int) (n : Nat) : amt17 (set17 S k false) c n ≤ amt17 (set17 S k true) c n := by
  induction n with
  | zero => exact Int.le_refl _
  | succ n ih =>
    obtain ⟨_, a2, a3, _⟩ := set17_same (o := false) hk n
    obtain ⟨_, b2, b3, _⟩ := set17_same (o := true) hk n
    rw [amt17, amt17, a2, a3, b2, b3]
    by_cases h1 : (gt14 S.T n).c = c ∧ cntb17 (set17 S k false) n = true
    · have h2 := cnt17_mono hk (cntb17_yes.1 h1.2)
      rw [if_pos h1, if_pos ⟨h1.1, cntb17_yes.2 h2⟩]
      omega
    · rw [if_neg h1]
      split
      · next h =>
        have h2 := (cntb17_yes.1 h.2).lt
        rw [set17_len, (set17_same (o := true) hk n).1] at h2
        have := (hT n h2.1 h2.2).2.1
        omega
      · omega
end Go.Proofs.Ytllcmjdfgbiijaa
namespace Go.Proofs.Ytllcmjdfgbiijaa
open Go.RowKit
set_option maxRecDepth 100000
/-- A number's chain: none, if there is no such thread. -/
def Tl16 (S : Sv14) (i : Int) (l : List Nat) : Prop := (us14 usH S.H i = false ∧ l = []) ∨ (us14 usH S.H i = true ∧ ∃ k : Nat, i = (k : Int) ∧ Chn16 S k l)
theorem Tl16.no {S : Sv14} {i : Int} {l : List Nat} (h : Tl16 S i l) (hu : us14 usH S.H i = false) : l = [] := by
  rcases h with h | h
  · exact h.2
  · rw [hu] at h; cases h.1
theorem tl16_neg (S : Sv14) : us14 usH S.H (-1) = false := by
  cases h : us14 usH S.H (-1) with
  | false => rfl
  | true => have := ush16_lt h; omega
theorem tl16_ex {S : Sv14} (hf : Fine14 S) (i : Int) : ∃ l, Tl16 S i l := by
  cases hu : us14 usH S.H i with
  | false => exact ⟨[], .inl ⟨hu, rfl⟩⟩
  | true =>
    have h1 := ush16_lt hu
    obtain ⟨k, rfl⟩ : ∃ k : Nat, i = (k : Int) := ⟨i.toNat, by omega⟩
    obtain ⟨l, hl⟩ := chn16_ex hf (i := k) (by omega)
    exact ⟨l, .inr ⟨hu, k, rfl, hl⟩⟩
theorem Tl16.chn {S : Sv14} {k : Nat} {l : List Nat} (h : Tl16 S (k : Int) l) (hu : us14 usH S.H (k : Int) = true) : Chn16 S k l := by
  rcases h with h | ⟨_, j, h1, h2⟩
  · rw [hu] at h; cases h.1
  · obtain rfl : k = j := by omega
    exact h2
theorem Tl16.same {S : Sv14} {i : Int} {l m : List Nat} (h : Tl16 S i l) (g : Tl16 S i m) : l = m := by
  rcases h with h | ⟨h0, k, rfl, h2⟩
  · rw [h.2, g.no h.1]
  · exact h2.same (g.chn h0)
theorem Tl16.cons {S : Sv14} {i : Int} {l : List Nat} (hf : Fine14 S) (h : Tl16 S i l) (hu : us14 usH S.H i = true) : ∃ (k : Nat) (r : List Nat), i = (k : Int) ∧ l = k :: r ∧ Tl16 S (nxt16 S i) r := by
  rcases h with h | ⟨_, k, rfl, h⟩
  · rw [hu] at h; cases h.1
  · cases h with
    | one h1 => exact ⟨k, [], rfl, rfl, .inl ⟨by rw [h1]; exact tl16_neg S, rfl⟩⟩
    | @step _ j r h1 h2 =>
      refine ⟨k, r, rfl, rfl, .inr ⟨?_, j, h1, h2⟩⟩
      rcases nxt16_used hf (k : Int) with h3 | h3
      · omega
      · exact h3.1
theorem Tl16.len {S : Sv14} {i : Int} {l : List Nat} (hf : Fine14 S) (h : Tl16 S i l) : l.length ≤ S.H.length := by
  rcases h with h | ⟨h0, k, rfl, h2⟩
  · rw [h.2]; simp
  · have := ush16_lt h0
    exact h2.len hf (by omega)
theorem Tl16.used {S : Sv14} {i : Int} {l : List Nat} (hf : Fine14 S) (h : Tl16 S i l) {x : Nat} (hx : x ∈ l) : us14 usH S.H (x : Int) = true := by
  rcases h with h | ⟨h0, k, rfl, h2⟩
  · rw [h.2] at hx; simp at hx
  · exact h2.used hf h0 x hx
theorem Tl16.nil {S : Sv14} {i : Int} {l : List Nat} (h : Tl16 S i l) : l = [] ↔ us14 usH S.H i = false := by
  rcases h with h | ⟨h0, k, rfl, h2⟩
  · exact ⟨fun _ => h.1, fun _ => h.2⟩
  · rw [h0]; exact ⟨fun e => absurd e h2.ne, fun e => by cases e⟩
/-- A chain's end. -/
def en16 (l : List Nat) : Int := if l = [] then -1 else ((lst16 l : Nat) : Int)
theorem Tl16.en {S : Sv14} {i : Int} {l : List Nat} (h : Tl16 S i l) (hu : us14 usH S.H i = true) : en16 l = ((lst16 l : Nat) : Int) ∧ nxt16 S (en16 l) = -1 ∧ lst16 l ∈ l := by
  rcases h with h | ⟨h0, k, rfl, h2⟩
  · rw [hu] at h; cases h.1
  · have e : en16 l = ((lst16 l : Nat) : Int) := if_neg h2.ne
    exact ⟨e, by rw [e]; exact h2.end_.1, h2.end_.2⟩
theorem en16_no {l : List Nat} (h : l = []) : en16 l = -1 := if_pos h
theorem en16_used {S : Sv14} {i : Int} {l : List Nat} (hf : Fine14 S) (h : Tl16 S i l) : us14 usH S.H (en16 l) = us14 usH S.H i := by
  cases hu : us14 usH S.H i with
  | false => rw [en16_no (h.no hu)]; exact tl16_neg S
  | true => rw [(h.en hu).1]; exact h.used hf (h.en hu).2.2
/-- Can go on: Ready or Running. -/
def lv16 (S : Sv14) (e : Int) : Bool := (at14 usH S.H e).s == 2 || (at14 usH S.H e).s == 3
theorem lv16_no {S : Sv14} {e : Int} (h : us14 usH S.H e = false) : lv16 S e = false := by
  rw [lv16, at14_no h]; rfl
/-- All behind have its end. -/
theorem Tl16.ends {S : Sv14} {i : Int} {x : Nat} {l r : List Nat} (hf : Fine14 S) (h : Tl16 S i l) (hx : x ∈ l) (hr : Tl16 S (x : Int) r) : en16 r = en16 l := by
  have hu := h.used hf hx
  have c := hr.chn hu
  rcases h with h | ⟨h0, k, rfl, h2⟩
  · rw [h.2] at hx; simp at hx
  · rw [en16, en16, if_neg c.ne, if_neg h2.ne, h2.ends hx c]
end Go.Proofs.Ytllcmjdfgbiijaa
namespace Go.Proofs.Ytllcmjdfgbiijaa
open Go.RowKit
set_option maxRecDepth 100000
open Classical in
noncomputable def livb17 (S : Sv14) (i : Int) : Bool := decide (Liv16 S i)
theorem livb17_yes {S : Sv14} {i : Int} : livb17 S i = true ↔ Liv16 S i := by
  unfold livb17
  exact @decide_eq_true_iff _ (Classical.propDecidable _)
theorem lv17_of {S : Sv14} {i : Int} {l : List Nat} (hf : Fine14 S) (h : Tl16 S i l) : lv16 S (en16 l) = livb17 S i := by
  rw [Bool.eq_iff_iff, livb17_yes]
  cases hu : us14 usH S.H i with
  | false =>
    rw [h.no hu, en16_no rfl, lv16_no (tl16_neg S)]
    constructor
    · intro h; cases h
    · rintro ⟨_, _, _, h2, _⟩
      rw [hu] at h2
      cases h2
  | true =>
    have hue := (en16_used hf h).trans hu
    have hin := ush16_lt hu
    obtain ⟨k, rfl⟩ : ∃ k : Nat, i = (k : Int) := ⟨i.toNat, by omega⟩
    have hc := h.chn hu
    have he := (h.en hu).1
    rw [he] at hue
    rw [he, lv16, at14_yes hue, Int.toNat_natCast, Bool.or_eq_true, beq_iff_eq, beq_iff_eq]
    constructor
    · exact fun h3 => ⟨k, l, rfl, hu, hc, h3⟩
    · rintro ⟨k2, l2, e, _, c2, h3⟩
      obtain rfl : k = k2 := by omega
      rwa [hc.same c2]
/-- Is there an amount above 0? -/
def aw17 (n : Nat) (Am : Nat → Nat) (t : Int) : Bool := decide (0 ≤ t ∧ t < (n : Int)) && decide (0 < Am t.toNat)
theorem aw17_in {n : Nat} {Am : Nat → Nat} {k : Nat} (h : k < n) : aw17 n Am (k : Int) = decide (0 < Am k) := by
  rw [aw17, decide_eq_true (by omega), Bool.true_and, Int.toNat_natCast]
theorem aw17_out {n : Nat} {Am : Nat → Nat} {t : Int} (h : ¬ (0 ≤ t ∧ t < (n : Int))) : aw17 n Am t = false := by
  rw [aw17, decide_eq_false h, Bool.false_and]
/-- Does what a ticket funds let it count? -/
noncomputable def lts17 (S : Sv14) (n : Nat) (Am : Nat → Nat) (k t : Int) : Bool := if k = 1 then livb17 S t else if k = 2 then aw17 n Am t else false
/-- A coin's active amount, as a number. -/
noncomputable def amn17 (S : Sv14) (c : Int) : Nat := (amt17 S c S.T.length).toNat
theorem amn17_int {S : Sv14} (hT : Tickets14 S) (c : Int) : ((amn17 S c : Nat) : Int) = amt17 S c S.T.length := by
  have := amt17_bound hT c S.T.length
  unfold amn17
  omega
theorem cnt17_lets {S : Sv14} (hT : Tickets14 S) {j : Nat} (hj : j < S.T.length) (hu : (gt14 S.T j).u = true) {Am : Nat → Nat} (hA : (gt14 S.T j).k = 2 → Am (gt14 S.T j).t.toNat = amn17 S (gt14 S.T j).t) :
    cntb17 S j = ((gt14 S.T j).o && lts17 S S.C.length Am (gt14 S.T j).k (gt14 S.T j).t) := by
  rw [Bool.eq_iff_iff, cntb17_yes, cnt17_iff, Bool.and_eq_true, lts17]
  by_cases h1 : (gt14 S.T j).k = 1
  · rw [if_pos h1, livb17_yes]
    constructor
    · rintro ⟨_, _, h3, ⟨_, h5⟩ | ⟨h4, _⟩⟩
      · exact ⟨h3, h5⟩
      · omega
    · rintro ⟨h3, h5⟩
      exact ⟨hj, hu, h3, .inl ⟨h1, h5⟩⟩
  · rw [if_neg h1]
    by_cases h2 : (gt14 S.T j).k = 2
    · rw [if_pos h2]
      have htg := (hT j hj hu).2.2.2
      have huc : us14 usC S.C (gt14 S.T j).t = true := by
        rcases htg with h | h | h
        · omega
        · omega
        · exact h.2.2
      have hin := us15_lt huc
      have hm := amn17_int hT (gt14 S.T j).t
      rw [aw17, decide_eq_true hin, Bool.true_and, decide_eq_true_iff, hA h2]
      have hall := amt17_all hT (gt14 S.T j).t
      constructor
      · rintro ⟨_, _, h3, ⟨h4, _⟩ | ⟨_, h5⟩⟩
        · omega
        · have := hall.2 h5
          exact ⟨h3, by omega⟩
      · rintro ⟨h3, h5⟩
        exact ⟨hj, hu, h3, .inr ⟨h2, hall.1 (by omega)⟩⟩
    · rw [if_neg h2]
      constructor
      · rintro ⟨_, _, _, ⟨h4, _⟩ | ⟨h4, _⟩⟩
        · exact absurd h4 h1
        · exact absurd h4 h2
      · rintro ⟨_, h⟩
        cases h
theorem amt17_no {S : Sv14} (hT : Tickets14 S) {c : Int} (hu : us14 usC S.C c = false) : ∀ n, amt17 S c n = 0
  | 0 => rfl
  | n + 1 => by
    rw [amt17, amt17_no hT hu n, if_neg]
    · rfl
    · rintro ⟨h1, h2⟩
      have h3 := (cntb17_yes.1 h2).lt
      have h4 := (hT n h3.1 h3.2).1
      rw [h1, hu] at h4
      cases h4
theorem amn17_no {S : Sv14} (hT : Tickets14 S) {c : Int} (hu : us14 usC S.C c = false) : amn17 S c = 0 := by
  rw [amn17, amt17_no hT hu]
  rfl
/-- What add makes of the marks, and of the coin's amount, by the first i of a list of tickets. -/
noncomputable def adt17 (S : Sv14) (l : List Nat) (M : Nat → Bool) : Nat → Nat → Bool
  | 0 => M
  | i + 1 => if cntb17 S (nth l i) = true then upd (adt17 S l M i) (nth l i) true else adt17 S l M i
noncomputable def ada17 (S : Sv14) (l : List Nat) : Nat → Nat
  | 0 => 0
  | i + 1 => ada17 S l i + if cntb17 S (nth l i) = true then (gt14 S.T (nth l i)).a.toNat else 0
theorem adt17_end {S : Sv14} {l : List Nat} {M : Nat → Bool} : ∀ {i : Nat}, i ≤ l.length → ∀ y, adt17 S l M i y = (M y || (decide (y ∈ l.take i) && cntb17 S y))
  | 0, _, y => by simp [adt17]
  | i + 1, h, y => by
    have ih := adt17_end (S := S) (l := l) (M := M) (i := i) (by omega) y
    rw [adt17, take15_next (by omega)]
    by_cases hy : y = nth l i
    · subst hy
      by_cases hc : cntb17 S (nth l i) = true
      · rw [if_pos hc, upd_at, hc]
        simp
      · rw [if_neg hc, ih]
        rw [Bool.not_eq_true] at hc
        simp [hc]
    · by_cases hc : cntb17 S (nth l i) = true
      · rw [if_pos hc, upd_far _ _ hy, ih]
        simp [hy]
      · rw [if_neg hc, ih]
        simp [hy]
theorem ada17_bound {S : Sv14} (hT : Tickets14 S) (l : List Nat) (i : Nat) : ada17 S l i ≤ i * 1048576 := by
  induction i with
  | zero => exact Nat.zero_le _
  | succ i ih =>
    rw [ada17, Nat.succ_mul]
    obtain ⟨K, hK⟩ : ∃ K, i * 1048576 = K := ⟨_, rfl⟩
    rw [hK] at ih ⊢
    split
    · next h =>
      have h1 := (cntb17_yes.1 h).lt
      have h2 := (hT _ h1.1 h1.2).2.2.1
      omega
    · omega
theorem ada17_low {S : Sv14} {l r : List Nat} : ∀ {i : Nat}, i ≤ l.length → ada17 S (l ++ r) i = ada17 S l i
  | 0, _ => rfl
  | i + 1, h => by rw [ada17, ada17, ada17_low (by omega), nth15_low (by omega)]
theorem tks17_next (S : Sv14) (p : Tk14 → Bool) (n : Nat) : tks15 S p (n + 1) = tks15 S p n ++ if ((gt14 S.T n).u && p (gt14 S.T n)) = true then [n] else [] := all11_next _ _
theorem ada17_all {S : Sv14} (hT : Tickets14 S) (c : Int) : ∀ n, ((ada17 S (tks15 S (isw15 c) n) (tks15 S (isw15 c) n).length : Nat) : Int) = amt17 S c n
  | 0 => rfl
  | n + 1 => by
    have ih := ada17_all hT c n
    rw [tks17_next, amt17]
    by_cases hp : ((gt14 S.T n).u && isw15 c (gt14 S.T n)) = true
    · rw [if_pos hp, List.length_append, List.length_singleton, ada17, ada17_low (Nat.le_refl _), nth15_at rfl]
      rw [Bool.and_eq_true, isw15, decide_eq_true_iff] at hp
      by_cases hc : cntb17 S n = true
      · rw [if_pos hc, if_pos ⟨hp.2, hc⟩]
        have h1 := (cntb17_yes.1 hc).lt
        have h2 := (hT _ h1.1 h1.2).2.1
        omega
      · rw [if_neg hc, if_neg (fun h => hc h.2)]
        omega
    · rw [if_neg hp, List.append_nil, ih, if_neg]
      · omega
      · rintro ⟨h1, h2⟩
        refine hp ?_
        rw [Bool.and_eq_true, isw15, decide_eq_true_iff]
        exact ⟨(cntb17_yes.1 h2).lt.2, h1⟩
theorem isd17_mem {S : Sv14} {c : Int} (hu : us14 usC S.C c = true) {j : Nat} : j ∈ isd15 S c ↔ j < S.T.length ∧ (gt14 S.T j).u = true ∧ (gt14 S.T j).c = c := by
  rw [isd15, if_pos hu, tks15_mem, isw15, decide_eq_true_iff]
theorem isd17_len (S : Sv14) (c : Int) : (isd15 S c).length ≤ S.T.length := by
  unfold isd15
  split
  · exact tks15_len _ _ _
  · simp
theorem ada17_isd {S : Sv14} (hT : Tickets14 S) {c : Int} (hu : us14 usC S.C c = true) : ada17 S (isd15 S c) (isd15 S c).length = amn17 S c := by
  have h := ada17_all hT c S.T.length
  have h2 := amn17_int hT c
  rw [isd15, if_pos hu]
  omega
theorem ord17_nodup {S : Sv14} {os : List Nat} (hd : Told13 (Ca15 S) S.C.length os) : (ord15 S os).Nodup := hd.nodup.filter _
theorem ord17_in {S : Sv14} {os : List Nat} (hd : Told13 (Ca15 S) S.C.length os) (hl : os.length = S.C.length) {x : Nat} : x ∈ ord15 S os ↔ us14 usC S.C (x : Int) = true := by
  constructor
  · exact fun h => (List.mem_filter.1 h).2
  · intro h
    have hin := us15_lt h
    exact List.mem_filter.2 ⟨full13 _ os hd.nodup hd.lt hl x (by omega), h⟩
theorem nth17_inj {l : List Nat} (h : l.Nodup) {a b : Nat} (ha : a < l.length) (hb : b < l.length) (e : nth l a = nth l b) : a = b := by
  rw [nth_in ha, nth_in hb] at e
  exact (List.getElem_inj h).1 e
theorem mem17_drop {l : List Nat} {d k : Nat} (hk : k < l.length) (h : d ≤ k) : nth l k ∈ l.drop d := by
  rw [nth_in hk]
  refine List.mem_iff_getElem.2 ⟨k - d, by rw [List.length_drop]; omega, ?_⟩
  rw [List.getElem_drop]
  congr 1
  omega
theorem drop17_next {l : List Nat} {d : Nat} (h : d < l.length) : l.drop d = nth l d :: l.drop (d + 1) := by
  rw [List.drop_eq_getElem_cons h, nth_in h]
theorem drop17_not {l : List Nat} (hn : l.Nodup) {d : Nat} (h : d < l.length) : nth l d ∉ l.drop (d + 1) := by
  have h2 := (List.drop_sublist d l).nodup hn
  rw [drop17_next h] at h2
  exact (List.nodup_cons.1 h2).1
/-- What a coin funds stands behind it. -/
theorem ord17_behind {S : Sv14} {os : List Nat} (hT : Tickets14 S) (hd : Told13 (Ca15 S) S.C.length os) (hl : os.length = S.C.length) {d : Nat} (hdl : d < (ord15 S os).length) {j : Nat} (hj : j < S.T.length) (hu : (gt14 S.T j).u = true) (hk : (gt14 S.T j).k = 2)
    (hc : (gt14 S.T j).c = ((nth (ord15 S os) d : Nat) : Int)) : (gt14 S.T j).t.toNat ∈ (ord15 S os).drop (d + 1) := by
  have htk := hT j hj hu
  have huc : us14 usC S.C (gt14 S.T j).t = true := by
    rcases htk.2.2.2 with h | h | h
    · omega
    · omega
    · exact h.2.2
  have hin := us15_lt huc
  have hti : (((gt14 S.T j).t.toNat : Nat) : Int) = (gt14 S.T j).t := by omega
  have hm : (gt14 S.T j).t.toNat ∈ ord15 S os := (ord17_in hd hl).2 (by rw [hti]; exact huc)
  obtain ⟨k, hkl, hke⟩ := List.mem_iff_getElem.1 hm
  rw [← nth_in hkl] at hke
  have hcin := us15_lt htk.1
  have hpre := told15_pre hd (fun y => us14 usC S.C (y : Int)) k hkl (nth (ord15 S os) d) (by
    rw [show nth (os.filter fun (y : Nat) => us14 usC S.C (y : Int)) k = (gt14 S.T j).t.toNat from hke, ca15_mem]
    exact ⟨⟨j, ⟨hj, hu, hk, hti.symm⟩, hc⟩, by omega, by omega⟩) (by
    show us14 usC S.C ((nth (ord15 S os) d : Nat) : Int) = true
    rw [← hc]
    exact htk.1)
  obtain ⟨q, hq, hqe⟩ := List.mem_iff_getElem.1 hpre
  rw [List.length_take] at hq
  rw [List.getElem_take, ← nth_in] at hqe
  have hqd : q = d := nth17_inj (ord17_nodup hd) (show q < (ord15 S os).length by have : (ord15 S os).length = (os.filter fun (y : Nat) => us14 usC S.C (y : Int)).length := rfl; omega) hdl hqe
  rw [← hke]
  exact mem17_drop hkl (by omega)
/-- What is known of those that stand behind the first d. -/
def Lb17 (S : Sv14) (ns : List Nat) (d : Nat) (M : Nat → Bool) (Am : Nat → Nat) : Prop := (∀ j, M j = (decide ((gt14 S.T j).c.toNat ∈ ns.drop d) && cntb17 S j)) ∧ ∀ x, Am x = if x ∈ ns.drop d then amn17 S ((x : Nat) : Int) else 0
theorem lb17_start (S : Sv14) (ns : List Nat) {m : Nat} (h : ns.length = m) : Lb17 S ns m (fun _ => false) (fun _ => 0) := by
  subst h
  constructor
  · intro j
    simp
  · intro x
    simp
theorem Lb17.pre {S : Sv14} {os : List Nat} {d : Nat} {M : Nat → Bool} {Am : Nat → Nat} (hT : Tickets14 S) (hd : Told13 (Ca15 S) S.C.length os) (hl : os.length = S.C.length) (hdl : d < (ord15 S os).length) (h : Lb17 S (ord15 S os) (d + 1) M Am) {c : Nat} (hc : nth (ord15 S os) d = c) :
    Am c = 0 ∧ ∀ j, j ∈ isd15 S (c : Int) → ∀ z, cntb17 S j = ((gt14 S.T j).o && lts17 S S.C.length (upd Am c z) (gt14 S.T j).k (gt14 S.T j).t) := by
  have hu : us14 usC S.C (c : Int) = true := by rw [← hc]; exact ord15_used hdl
  have hn := drop17_not (ord17_nodup hd) hdl
  rw [hc] at hn
  refine ⟨by rw [h.2, if_neg hn], fun j hj z => ?_⟩
  obtain ⟨h1, h2, h3⟩ := (isd17_mem hu).1 hj
  refine cnt17_lets hT h1 h2 (fun hk => ?_)
  have hb := ord17_behind hT hd hl hdl h1 h2 hk (by rw [hc]; exact h3)
  have hne : (gt14 S.T j).t.toNat ≠ c := fun e => hn (by rw [← e]; exact hb)
  have htk := (hT j h1 h2).2.2.2
  have huc : us14 usC S.C (gt14 S.T j).t = true := by
    rcases htk with h | h | h
    · omega
    · omega
    · exact h.2.2
  have hin := us15_lt huc
  rw [upd_far _ _ hne, h.2, if_pos hb]
  congr 1
  omega
theorem Lb17.next {S : Sv14} {os : List Nat} {d : Nat} {M : Nat → Bool} {Am : Nat → Nat} (hT : Tickets14 S) (hd : Told13 (Ca15 S) S.C.length os) (hl : os.length = S.C.length) (hdl : d < (ord15 S os).length) (h : Lb17 S (ord15 S os) (d + 1) M Am) {c : Nat} (hc : nth (ord15 S os) d = c) :
    Lb17 S (ord15 S os) d (adt17 S (isd15 S (c : Int)) M (isd15 S (c : Int)).length) (upd Am c (ada17 S (isd15 S (c : Int)) (isd15 S (c : Int)).length)) := by
  have hu : us14 usC S.C (c : Int) = true := by rw [← hc]; exact ord15_used hdl
  have e := drop17_next hdl
  rw [hc] at e
  constructor
  · intro j
    rw [adt17_end (Nat.le_refl _), List.take_length, h.1, e]
    cases hj : cntb17 S j with
    | false => simp
    | true =>
      have h1 := (cntb17_yes.1 hj).lt
      have hin := us15_lt (hT j h1.1 h1.2).1
      have hm : j ∈ isd15 S (c : Int) ↔ (gt14 S.T j).c.toNat = c := by
        rw [isd17_mem hu]
        constructor
        · intro h
          omega
        · intro h
          exact ⟨h1.1, h1.2, by omega⟩
      simp only [Bool.and_true, List.mem_cons, Bool.decide_or, hm]
      exact Bool.or_comm _ _
  · intro x
    rw [e]
    by_cases hx : x = c
    · subst hx
      rw [upd_at, if_pos (List.mem_cons_self ..), ada17_isd hT hu]
    · rw [upd_far _ _ hx, h.2]
      simp [hx]
theorem Lb17.end_ {S : Sv14} {os : List Nat} {M : Nat → Bool} {Am : Nat → Nat} (hT : Tickets14 S) (hd : Told13 (Ca15 S) S.C.length os) (hl : os.length = S.C.length) (h : Lb17 S (ord15 S os) 0 M Am) : (∀ j, M j = cntb17 S j) ∧ ∀ x : Nat, Am x = amn17 S ((x : Nat) : Int) := by
  constructor
  · intro j
    rw [h.1, List.drop_zero]
    cases hj : cntb17 S j with
    | false => simp
    | true =>
      have h1 := (cntb17_yes.1 hj).lt
      have h2 := (hT j h1.1 h1.2).1
      have hin := us15_lt h2
      rw [decide_eq_true ((ord17_in hd hl).2 (by rw [show (((gt14 S.T j).c.toNat : Nat) : Int) = (gt14 S.T j).c by omega]; exact h2))]
      rfl
  · intro x
    rw [h.2, List.drop_zero]
    by_cases hx : x ∈ ord15 S os
    · rw [if_pos hx]
    · rw [if_neg hx]
      symm
      refine amn17_no hT ?_
      rw [← Bool.not_eq_true]
      exact fun h => hx ((ord17_in hd hl).2 h)
end Go.Proofs.Ytllcmjdfgbiijaa
namespace Go.Proofs.Ytllcmjdfgbiijaa
open Go.RowKit
set_option maxRecDepth 100000
/-- A row lies from block L on. -/
def Fa17 (L : Nat) (A : Option Addr) (xs : List Nat) : Prop := xs ≠ [] → ∃ b o, A = some ⟨b, o, none⟩ ∧ L ≤ b
theorem Fa17.more {L L' : Nat} {A : Option Addr} {xs : List Nat} (h : Fa17 L A xs) (hL : L' ≤ L) : Fa17 L' A xs := fun hx => by
  obtain ⟨b, o, h1, h2⟩ := h hx
  exact ⟨b, o, h1, by omega⟩
theorem Fa17.of_own {w : World} {L n c : Nat} {A : Option Addr} {xs : List Nat} (h : w.ownsRow L 3 1 (.slice A n c) n (ints xs)) (hl : xs.length = n) : Fa17 L A xs := fun hx => by
  have hpos : 0 < xs.length := List.length_pos_iff.2 hx
  rcases h.2 with ⟨_, h0⟩ | ⟨g, cap, cur, hv, hg, _, _⟩
  · omega
  · injection hv with hA
    exact ⟨g, 0, hA, hg⟩
def RetO17 (w : World) (xs : List Nat) (e : Ending) (w' : World) : Prop := ∃ A c, e = .returned (.slice A xs.length c) ∧ Rd w' w'.heap.size A xs ∧ Fa17 w.heap.size A xs ∧ Below w.heap.size w w'
def RetF17 (B : Nat) (w : World) (ys : List Nat) (e : Ending) (w' : World) : Prop := ∃ A c, e = .returned (.slice A ys.length c) ∧ Rd w' w'.heap.size A ys ∧ Fa17 B A ys ∧ Below B w w'
set_option maxHeartbeats 4000000 in
theorem del17 (A : Option Addr) (xs : List Nat) (n c gx B : Nat) (w : World) (hl : xs.length = n) (ho : w.ownsRow B 3 1 (.slice A n c) n (ints xs)) (hn : n ≤ 1000000) (hB : B ≤ w.heap.size) (p : Nat → Bool)
    (hcl : ∀ W, Below B w W → ∀ x, x ∈ xs → Calls Try.prog 47 #[.int .i64 ((x : Nat) : Int), .pointer (some ⟨gx, 0, none⟩)] W fun e w' => e = .returned (.bool (p x)) ∧ Below W.heap.size W w') :
    Calls Try.prog 46 #[.slice A n c, .func (.func 47) #[] #[.pointer (some ⟨gx, 0, none⟩)]] w (RetF17 B w (xs.filter (fun x => !p x))) := by
  have HP : Hid (RetF17 B w (xs.filter (fun x => !p x)) = fun e w' => ∃ A c, e = .returned (.slice A (xs.filter (fun x => !p x)).length c) ∧ Rd w' w'.heap.size A (xs.filter (fun x => !p x)) ∧ Fa17 B A (xs.filter (fun x => !p x)) ∧ Below B w w') := Lib.hid rfl
  have HI := Lib.hid (idx15a A xs n c gx w.heap.size w hl (rd15_own ho hl) hn (Nat.le_refl _) p (fun W hW => hcl W (hW.mono hB)))
  have HL := Lib.hid hl
  have HO := Lib.hid ho
  have HC := Lib.hid hcl
  have hcap := own14_cap ho
  clear hl ho hcl
  go_enter Try.func46, Try.ntmps46
  go_wp2_with fail
  refine HI.out.mono ?_
  rintro e w1 ⟨r, rfl, hf, hb1⟩
  clear HI
  rcases hf with ⟨k, h1, rfl, h2, h3⟩ | ⟨rfl, h2⟩
  · obtain ⟨g, hA, hgB⟩ : ∃ g, A = some ⟨g, 0, none⟩ ∧ B ≤ g := by
      rcases HO.out.2 with ⟨_, h0⟩ | ⟨g, cap, cur, hv, hg, _⟩
      · omega
      · injection hv with hA
        exact ⟨g, hA, hg⟩
    subst hA
    have HGB := Lib.hid hgB
    have hi1 : Ib13 w1 g n (nth xs) := (Ib13.of_own HO.out HL.out).below hb1 (HO.out.lt g rfl).2
    have HD0 : Hid (Df15 w B g n xs p k (k + 1) w1) := Lib.hid (by
      have hk := HL.out
      have e1 : (xs.take (k + 1)).filter (fun x => !p x) = xs.take k := by
        rw [filt15_next (by omega), filt15_head (by omega) (fun t ht => by rw [h3 t ht]; rfl), h2]
        simp
      refine ⟨hb1.mono hB, by rw [e1, List.length_take]; omega, nth xs, hi1, fun t ht => ?_, fun t _ _ => rfl⟩
      rw [e1, nth15_take ht])
    have e0 : ¬ (k : Int) = -1 := by omega
    have e1 : ((k : Int) == -1) = false := by simp [e0]
    obtain ⟨j0, hj0⟩ : ∃ j0, k + 1 = j0 := ⟨_, rfl⟩
    have hw0 : IntKind.i64.wrap ((k : Int) + 1) = ((j0 : Nat) : Int) := by rw [IntKind.wrap_i64]; omega
    rw [hj0] at HD0
    have HWD := Lib.hid (show k < j0 ∧ j0 ≤ n by omega)
    clear hi1 h2 h3 hb1 hj0
    go_wp2_with fail
    go_loopw [5, 6] (fun i j wr => ∃ k jj : Nat, i = .int .i64 (k : Int) ∧ j = .int .i64 (jj : Int) ∧ k < jj ∧ jj ≤ n ∧ Hid (Df15 w B g n xs p k jj wr)) (fun _ j _ => n - (intOf j).toNat)
    case atStart => exact ⟨k, j0, rfl, rfl, HWD.out.1, HWD.out.2, HD0⟩
    case round =>
      clear HD0 HWD h1
      obtain ⟨k, jj, rfl, rfl, hkj, hj, HD⟩ := hrel
      by_cases hjn : jj < n
      · obtain ⟨h, hib, hlo, hhi⟩ := HD.out.r
        have q0 := (hib.cells hjn).1
        rw [hhi jj (Nat.le_refl _) hjn] at q0
        obtain ⟨x, hx⟩ : ∃ x, nth xs jj = x := ⟨_, rfl⟩
        rw [hx] at q0
        obtain ⟨bp, hbp⟩ : ∃ y, p x = y := ⟨_, rfl⟩
        have hc := HC.out _ HD.out.b x (by rw [← hx, nth_in (by have := HL.out; omega)]; exact List.getElem_mem _)
        rw [hbp] at hc
        have HCK := Lib.hid hc
        have HX : Hid ((xs.take (jj + 1)).filter (fun x => !p x) = (xs.take jj).filter (fun x => !p x) ++ if bp then [] else [x]) := Lib.hid (by
          rw [filt15_next (by have := HL.out; omega), hx, hbp]
          cases bp <;> rfl)
        have HIB := Lib.hid hib
        have HLO := Lib.hid hlo
        have HHI := Lib.hid hhi
        have HGW := HIB.out.lt
        have i0 : (0 : Int) ≤ (jj : Int) := by omega
        have i1 : (jj : Int) < (n : Int) := by omega
        have i2 : (0 : Int) ≤ (k : Int) := by omega
        have i3 : (k : Int) < (n : Int) := by omega
        clear hx hbp hc hib hlo hhi
        cases bp with
        | true =>
          go_wp2_with fail
          refine HCK.out.mono ?_
          rintro e w2 ⟨rfl, hb2⟩
          have HD2 : Hid (Df15 w B g n xs p k (jj + 1) w2) := Lib.hid (by
            have hX := HX.out
            simp only [if_true, List.append_nil] at hX
            refine ⟨HD.out.b.trans (hb2.mono (by have := HD.out.b.size; omega)), by rw [hX]; exact HD.out.l, h, HIB.out.below hb2 HGW, ?_, fun t h1 h2 => HHI.out t (by omega) h2⟩
            rw [hX]
            exact HLO.out)
          clear HCK hb2 HIB HLO HHI HX HD
          go_wp2_with fail
          go_roundw
          case rel => exact ⟨k, jj + 1, rfl, by go_num, by omega, by omega, HD2⟩
          case measure => simp [intOf]; omega
        | false =>
          go_wp2_with fail
          refine HCK.out.mono ?_
          rintro e w2 ⟨rfl, hb2⟩
          have hi2 := HIB.out.below hb2 HGW
          have f2 := (hi2.cells (k := k) (by omega)).2
          have c2 := (hi2.cells (k := k) (by omega)).1
          have HD2 : Hid (Df15 w B g n xs p (k + 1) (jj + 1) (w2.setCell ⟨g, k, none⟩ (.int .i64 (x : Int)))) := Lib.hid (by
            have hX := HX.out
            simp only [Bool.false_eq_true, if_false] at hX
            refine ⟨(HD.out.b.trans (hb2.mono (by have := HD.out.b.size; omega))).setCell hgB _, by rw [hX, List.length_append, HD.out.l]; rfl, upd h k x, hi2.put (by omega) x, fun t ht => ?_, fun t h1 h2 => ?_⟩
            · rw [hX]
              by_cases htk : t = k
              · subst htk
                rw [upd_at, nth15_at HD.out.l]
              · rw [upd_far _ _ htk, nth15_low (by rw [HD.out.l]; omega)]
                exact HLO.out t (by omega)
            · rw [upd_far _ _ (by omega)]
              exact HHI.out t (by omega) h2)
          clear HCK hb2 HIB HLO HHI HX HD hi2
          go_wp2_with fail
          go_roundw
          case rel => exact ⟨k + 1, jj + 1, by go_num, by go_num, by omega, by omega, HD2⟩
          case measure => simp [intOf]; omega
      · obtain rfl : jj = n := by omega
        have i1 : ¬ (jj : Int) < (jj : Int) := by omega
        obtain ⟨h, hib, hlo, _⟩ := HD.out.r
        have hfl := HD.out.l
        have htk : xs.take jj = xs := List.take_of_length_le (by have := HL.out; omega)
        rw [htk] at hlo hfl
        obtain ⟨B', hcut, hB'⟩ := cutb15 g jj c k (by omega) hcap
        obtain ⟨w3, hclr, hi3, hg3⟩ := clear15 hib (k := k) (by omega) B' (c - k) hB'
        have HB3 : Hid (Below B w w3) := Lib.hid (HD.out.b.grown hg3 (by have := HD.out.b.size; omega) (fun r hr => by cases hr; exact hgB))
        have HRD : Hid (Rd w3 w3.heap.size (some ⟨g, 0, none⟩) (xs.filter (fun x => !p x))) := Lib.hid (by
          have h5 := hi3
          rw [← hfl] at h5
          exact h5.rd (fun t ht => (hlo t (by omega)).symm))
        have HFL := Lib.hid hfl
        have i5 : (0 : Int) ≤ (k : Int) := by omega
        have i6 : (k : Int) ≤ (c : Int) := by omega
        clear hib hlo hfl htk hi3 hg3 HD hB'
        go_wp2_with fail
        go_ret
        rw [HP.out]
        exact ⟨some ⟨g, 0, none⟩, c, by rw [HFL.out]; rfl, HRD.out, fun _ => ⟨g, 0, rfl, HGB.out⟩, HB3.out⟩
  · have HF : Hid (xs.filter (fun x => !p x) = xs) := Lib.hid (by
      rw [List.filter_eq_self]
      intro x hx
      obtain ⟨t, ht, rfl⟩ := List.getElem_of_mem hx
      rw [← nth_in ht, h2 t (by have := HL.out; omega)]
      rfl)
    have HR : Hid (Rd w1 w1.heap.size A xs) := Lib.hid ((rd15_own HO.out HL.out).below hb1 (Nat.le_refl _) |>.more hb1.size)
    have HB1 := Lib.hid (hb1.mono hB)
    clear h2 hb1
    go_wp2_with fail
    go_ret
    rw [HP.out, HF.out]
    exact ⟨A, c, by rw [HL.out]; rfl, HR.out, Fa17.of_own HO.out HL.out, HB1.out⟩
set_option maxHeartbeats 4000000 in
theorem order17 (v : Value) (S : Sv14) (os : List Nat) (w : World) (h : St14 w v S) (hd : Done13 (Ca15 S) S.C.length os) (hf : os.length = S.C.length) :
    Calls Try.prog 38 #[v] w (RetO17 w (ord15 S os)) := by
  obtain ⟨A0, A1, A2, A3, A4, n0, n1, n2, n3, n4, c0, c1, c2, c3, c4, sq, rfl, hs⟩ := h
  have HP : Hid (RetO17 w (ord15 S os) = fun e w' => ∃ A c, e = .returned (.slice A (ord15 S os).length c) ∧ Rd w' w'.heap.size A (ord15 S os) ∧ Fa17 w.heap.size A (ord15 S os) ∧ Below w.heap.size w w') := Lib.hid rfl
  have HCA := Lib.hid (fun W (h : Bx14 w S A0 A1 A2 A3 A4 n0 n1 n2 n3 n4 c0 c1 c2 c3 c4 sq W) => coinArrows14 _ S W h.st)
  have hl0 := hs.l0
  have hm0 := hs.m0
  have HLA : Hid ((cArr14 S S.T.length).length ≤ 1000000) := Lib.hid (by have := cArr14_len S S.T.length; have := hs.l1; have := hs.m1; omega)
  have HOR := Lib.hid (fun W Ad c (hr : Aq W W.heap.size Ad (cArr14 S S.T.length)) => dorder13_any (n0 : Int) n0 (by unfold nn13; omega) Ad _ _ c os W rfl hr HLA.out (by rw [← hl0]; exact hd))
  have hfn : decide (os.length = n0) = true := by rw [← hl0]; simpa using hf
  have HFN := Lib.hid (show os.length = n0 by rw [← hl0]; exact hf)
  have hx0 := Bx14.new hs
  have hxn := hx0.step (Below.refl _ _).drew
  obtain ⟨W1, hW1⟩ : ∃ W, w.alloc (.cells #[.slice A0 n0 c0, .slice A1 n1 c1, .slice A2 n2 c2, .slice A3 n3 c3, .slice A4 n4 c4, .int .i64 sq] 28) = W := ⟨_, rfl⟩
  rw [hW1] at hx0 hxn
  have HXN := Lib.hid hxn
  clear hs hx0 hxn hd hf hl0
  go_enter Try.func38, Try.ntmps38
  obtain ⟨wn, hwn⟩ : ∃ W, W1.drew = W := ⟨_, rfl⟩
  rw [hwn] at HXN
  go_wp2_with fail
  refine wp_region_held_drew (S := Bx14 w S A0 A1 A2 A3 A4 n0 n1 n2 n3 n4 c0 c1 c2 c3 c4 sq) (by kernel_rfl) (by rw [hwn]; exact HXN.out) (fun hHeld => ?_)
  rw [hwn] at hHeld ⊢
  clear hwn
  have HBS := HXN
  refine tk 0 (v := ?_) (fun W hS => ?_) ?_
  rotate_left
  · (go_simp; try with_reducible rfl)
  (try dsimp only [Act.put]); try simp only [pt1, pt2, pt3]
  refine tk 1 (v := ?_) (fun W hS => ?_) ?_
  rotate_left
  · try dsimp only at hS
    have z0 := hS.x.cell 0
    go_simp
    try with_reducible rfl
  (try dsimp only [Act.put]); try simp only [pt1, pt2, pt3]
  refine tk 2 (v := ?_) (fun W hS => ?_) ?_
  rotate_left
  · (go_simp; try with_reducible rfl)
  (try dsimp only [Act.put]); try simp only [pt1, pt2, pt3]
  refine tk 3 (v := ?_) (fun W hS => ?_) ?_
  rotate_left
  · try dsimp only at hS
    have z0 := hS.x.cell 0
    have z1 := hS.x.cell 1
    have z2 := hS.x.cell 2
    have z3 := hS.x.cell 3
    have z4 := hS.x.cell 4
    have z5 := hS.x.cell 5
    go_simp
    try with_reducible rfl
  (try dsimp only [Act.put]); try simp only [pt1, pt2, pt3]
  refine rdy 4 (fun K hK => ?_)
  have HBS0 := HBS
  go_simp
  refine (HCA.out _ HBS0.out).mono ?_
  rintro e wn ⟨Ac, cc, rfl, hqa, hb⟩
  have HBS := Lib.hid (HBS0.out.step hb)
  have HQA := Lib.hid hqa
  clear hqa
  clear hb HBS0
  refine hK.out _ _ HBS.out (fun hHeld => ?_)
  clear hK K
  (try dsimp only [Act.put]); try simp only [pt1, pt2, pt3]
  refine rdy 5 (fun K hK => ?_)
  have HBS0 := HBS
  go_simp
  refine (HOR.out _ Ac cc HQA.out).mono ?_
  rintro e wm ⟨vo, rfl, ho, _, hb⟩
  obtain ⟨WO, hWO⟩ : ∃ W, W = wn := ⟨_, rfl⟩
  rw [← hWO] at HBS0 hb ho
  have HBS := Lib.hid (HBS0.out.step hb)
  have HQO := Lib.hid (ho HFN.out)
  have HB5 := Lib.hid hb
  have HBO := Lib.hid HBS0.out.b
  have HX5 := HBS0
  clear hb HBS0 HQA ho hWO
  refine hK.out _ _ HBS.out (fun hHeld => ?_)
  clear hK K
  (try dsimp only [Act.put]); try simp only [pt1, pt2, pt3]
  refine tk 6 (v := ?_) (fun W hS => ?_) ?_
  rotate_left
  · (go_simp; try with_reducible rfl)
  (try dsimp only [Act.put]); try simp only [pt1, pt2, pt3]
  refine tk 7 (v := ?_) (fun W hS => ?_) ?_
  rotate_left
  · (go_simp; try with_reducible rfl)
  (try dsimp only [Act.put]); try simp only [pt1, pt2, pt3]
  refine tk 8 (v := ?_) (fun W hS => ?_) ?_
  rotate_left
  · (go_simp; try with_reducible rfl)
  (try dsimp only [Act.put]); try simp only [pt1, pt2, pt3]
  refine rdy 9 (fun K hK => ?_)
  go_simp
  refine hK.out _ _ HBS.out (fun hHeld => ?_)
  clear hK K
  (try dsimp only [Act.put]); try simp only [pt1, pt2, pt3]
  refine rdy 10 (fun K hK => ?_)
  go_simp
  refine hK.out _ _ HBS.out (fun hHeld => ?_)
  clear hK K
  (try dsimp only [Act.put]); try simp only [pt1, pt2, pt3]
  refine wpAnyH_done (by kernel_rfl) ?_ _
  clear hHeld
  obtain ⟨Ao, co, rfl, hown⟩ := HQO.out
  have HOW := Lib.hid hown
  clear hown
  have HDL := Lib.hid (del17 Ao os os.length co w.heap.size WO.heap.size wm rfl HOW.out (by have := HFN.out; omega) HB5.out.size (fun (x : Nat) => !us14 usC S.C (x : Int)) (fun W hW x _ => ordc15 (x : Int) w.heap.size S A0 A1 A2 A3 A4 n0 n1 n2 n3 n4 c0 c1 c2 c3 c4 sq W _ (HX5.out.x.below (HB5.out.trans hW) HX5.out.x.lt) (HX5.out.s.step (HB5.out.trans hW)) rfl))
  clear HX5 HBS
  go_wp2_with fail
  refine HDL.out.mono ?_
  rintro e w7 ⟨Af, cf, rfl, hrd, hfa, hb7⟩
  have HB7 := Lib.hid (HBO.out.trans ((HB5.out.trans hb7).mono HBO.out.size))
  have HF : Hid (os.filter (fun (x : Nat) => !!us14 usC S.C (x : Int)) = ord15 S os) := Lib.hid (by simp [ord15])
  rw [HF.out] at hrd hfa ⊢
  have HFA := Lib.hid (hfa.more HBO.out.size)
  clear hfa
  have HRD := Lib.hid hrd
  clear hrd hb7 HDL
  go_wp2_with fail
  go_ret
  rw [HP.out]
  exact ⟨Af, cf, rfl, HRD.out, HFA.out, HB7.out⟩
set_option maxHeartbeats 4000000 in
theorem tickets17i (v : Value) (S : Sv14) (gc : Nat) (w : World) (h : St14 w v S) (p : Tk14 → Bool)
    (hcl : ∀ W, Below w.heap.size w W → ∀ xu xc xa xk xt xo, Calls Try.prog 61 #[.agg #[.bool xu, .int .i64 xc, .int .i64 xa, .int .i64 xk, .int .i64 xt, .bool xo], .pointer (some ⟨gc, 0, none⟩)] W fun e w' => e = .returned (.bool (p ⟨xu, xc, xa, xk, xt, xo⟩)) ∧ Below W.heap.size W w') :
    Calls Try.prog 60 #[v, .func (.func 61) #[] #[.pointer (some ⟨gc, 0, none⟩)]] w (RetO17 w (tks15 S p S.T.length)) := by
  obtain ⟨A0, A1, A2, A3, A4, n0, n1, n2, n3, n4, c0, c1, c2, c3, c4, sq, rfl, hs⟩ := h
  have HP : Hid (RetO17 w (tks15 S p S.T.length) = fun e w' => ∃ A c, e = .returned (.slice A (tks15 S p n1).length c) ∧ Rd w' w'.heap.size A (tks15 S p n1) ∧ Fa17 w.heap.size A (tks15 S p n1) ∧ Below w.heap.size w w') := Lib.hid (by rw [hs.l1]; rfl)
  have HX0 : Hid (Ti15 w (w.heap.size + 1) S A0 A1 A2 A3 A4 n0 n1 n2 n3 n4 c0 c1 c2 c3 c4 sq none 0 0 (tks15 S p 0) (w.alloc (.cells #[.slice A0 n0 c0, .slice A1 n1 c1, .slice A2 n2 c2, .slice A3 n3 c3, .slice A4 n4 c4, .int .i64 sq] 28))) := Lib.hid (Ti15.start hs (Bx14.new hs) (by omega) (by simp))
  have HC := Lib.hid hcl
  have HL1 := Lib.hid hs.l1
  have hnb := hs.m1
  have t1 := HX0.out.b.x.cell 1
  clear hs hcl
  go_enter Try.func60, Try.ntmps60
  go_wp2_with fail
  clear t1
  go_loopw [4, 10] (fun v i wr => ∃ (k : Nat) (A : Option Addr) (m c : Nat), v = .slice A m c ∧ i = .int .i64 (k : Int) ∧ k ≤ n1 ∧ Hid (Ti15 w (w.heap.size + 1) S A0 A1 A2 A3 A4 n0 n1 n2 n3 n4 c0 c1 c2 c3 c4 sq A m c (tks15 S p k) wr)) (fun _ i _ => n1 - (intOf i).toNat)
  case atStart => exact ⟨0, none, 0, 0, rfl, rfl, by omega, HX0⟩
  case round =>
    obtain ⟨k, A, m, c, rfl, rfl, hk, HW⟩ := hrel
    by_cases hkn : k < n1
    · obtain ⟨a, of, hA, hab, hq⟩ := Lq.at_ len14T (by omega) HW.out.b.s.r1 (show k < S.T.length by have := HL1.out; omega)
      obtain ⟨x, hx⟩ : ∃ x, gt14 S.T k = x := ⟨_, rfl⟩
      rw [hx] at hq
      obtain ⟨xu, xc, xa, xk, xt, xo⟩ := x
      have e0 : wr.cell? ⟨a, of + k * 6, none⟩ = some (.bool xu) := hq 0 _ rfl
      have e1 : wr.cell? ⟨a, of + k * 6 + 1, none⟩ = some (.int .i64 xc) := hq 1 _ rfl
      have e2 : wr.cell? ⟨a, of + k * 6 + 2, none⟩ = some (.int .i64 xa) := hq 2 _ rfl
      have e3 : wr.cell? ⟨a, of + k * 6 + 3, none⟩ = some (.int .i64 xk) := hq 3 _ rfl
      have e4 : wr.cell? ⟨a, of + k * 6 + 4, none⟩ = some (.int .i64 xt) := hq 4 _ rfl
      have e5 : wr.cell? ⟨a, of + k * 6 + 5, none⟩ = some (.bool xo) := hq 5 _ rfl
      have i0 : (0 : Int) ≤ (k : Int) := by omega
      have i1 : (k : Int) < (n1 : Int) := by omega
      have HV := Lib.hid (Ti15.step HW.out (b1' wr (.cells #[.bool xu, .int .i64 xc, .int .i64 xa, .int .i64 xk, .int .i64 xt, .bool xo] 35)))
      have hv := Blk.new wr 35 #[.bool xu, .int .i64 xc, .int .i64 xa, .int .i64 xk, .int .i64 xt, .bool xo]
      have v0 := hv.cell 0
      have v1 := hv.cell 1
      have v2 := hv.cell 2
      have v3 := hv.cell 3
      have v4 := hv.cell 4
      have v5 := hv.cell 5
      have HVB := Lib.hid hv
      have HNX : Hid (tks15 S p (k + 1) = tks15 S p k ++ if (xu && p ⟨xu, xc, xa, xk, xt, xo⟩) then [k] else []) := Lib.hid (by
        have h := all11_next (fun j => (gt14 S.T j).u && p (gt14 S.T j)) k
        rw [hx] at h
        exact h)
      obtain ⟨X, hX⟩ : ∃ X, wr.alloc (.cells #[.bool xu, .int .i64 xc, .int .i64 xa, .int .i64 xk, .int .i64 xt, .bool xo] 35) = X := ⟨_, rfl⟩
      rw [hX] at HV HVB v0 v1 v2 v3 v4 v5
      have hmk : m ≤ k := by rw [← HW.out.l]; exact tks15_len S p k
      clear hv hq hx hab
      subst hA
      cases xu with
      | false =>
        have HN := Lib.hid (HV.out.congr (ys := tks15 S p (k + 1)) (by rw [HNX.out]; simp))
        go_wp2_with fail
        go_roundw
        case rel => exact ⟨k + 1, A, m, c, rfl, by go_num, by omega, HN⟩
        case measure => simp [intOf]; omega
      | true =>
        obtain ⟨bp, hbp⟩ : ∃ y, p ⟨true, xc, xa, xk, xt, xo⟩ = y := ⟨_, rfl⟩
        have hc := HC.out X HV.out.b.b true xc xa xk xt xo
        rw [hbp] at hc HNX
        have HCK := Lib.hid hc
        clear hbp hc
        cases bp with
        | false =>
          go_wp2_with fail
          refine HCK.out.mono ?_
          rintro e w2 ⟨rfl, hb2⟩
          have HN := Lib.hid ((HV.out.step hb2).congr (ys := tks15 S p (k + 1)) (by rw [HNX.out]; simp))
          clear HCK hb2
          go_wp2_with fail
          go_roundw
          case rel => exact ⟨k + 1, A, m, c, rfl, by go_num, by omega, HN⟩
          case measure => simp [intOf]; omega
        | true =>
          go_wp2_with fail
          refine HCK.out.mono ?_
          rintro e w2 ⟨rfl, hb2⟩
          obtain ⟨Az, cz, W2, hrun, har, _⟩ := (HV.out.step hb2).push k (by omega)
          have HRUN := Lib.hid hrun
          have HAR := Lib.hid (har.congr (ys := tks15 S p (k + 1)) (by rw [HNX.out]; simp))
          clear HCK hb2 hrun har
          go_wp2_with (at_builtin; go_loud (refine wpList_append_14 _ rfl (.tmp 22) (.tmp 24) 26 rfl _ _ _ _ rfl rfl HRUN.out ?_))
          go_roundw
          case rel => exact ⟨k + 1, Az, m + 1, cz, rfl, by go_num, by omega, HAR⟩
          case measure => simp [intOf]; omega
    · obtain rfl : k = n1 := by omega
      have HL := Lib.hid HW.out.l
      have h1 : ¬ (k : Int) < (k : Int) := by omega
      go_wp2_with fail
      go_ret
      rw [HP.out]
      exact ⟨A, c, by rw [HL.out]; rfl, HW.out.rd, (Fa17.of_own HW.out.o HW.out.l).more (by omega), HW.out.b.b⟩
set_option maxHeartbeats 4000000 in
theorem issued17 (v : Value) (S : Sv14) (c : Int) (w : World) (h : St14 w v S) :
    Calls Try.prog 49 #[v, .int .i64 c] w (RetO17 w (isd15 S c)) := by
  obtain ⟨A0, A1, A2, A3, A4, n0, n1, n2, n3, n4, c0, c1, c2, c3, c4, sq, rfl, hs⟩ := h
  have hx0 := Bx14.new hs
  have hxn := hx0.step (Below.refl _ _).drew
  obtain ⟨W1, hW1⟩ : ∃ W, w.alloc (.cells #[.slice A0 n0 c0, .slice A1 n1 c1, .slice A2 n2 c2, .slice A3 n3 c3, .slice A4 n4 c4, .int .i64 sq] 28) = W := ⟨_, rfl⟩
  rw [hW1] at hx0 hxn
  obtain ⟨bc, hbc⟩ : ∃ b, us14 usC S.C c = b := ⟨_, rfl⟩
  have hb2 := b1' W1 (.cells #[.int .i64 c] 3)
  have hk2 := Blk.new W1 3 #[.int .i64 c]
  have hx2 := hx0.step hb2
  have hz1 : W1.heap.size = w.heap.size + 1 := by rw [← hW1]; simp
  rw [hz1] at hk2
  obtain ⟨W2, hW2⟩ : ∃ W, W1.alloc (.cells #[.int .i64 c] 3) = W := ⟨_, rfl⟩
  rw [hW2] at hb2 hk2 hx2
  have HCC := Lib.hid (coin14 _ S c bc W2 hx2.st hbc)
  have HX2 := Lib.hid hx2
  have HK2 := Lib.hid hk2
  have x0 := hx2.x.cell 0
  have x1 := hx2.x.cell 1
  have x2 := hx2.x.cell 2
  have x3 := hx2.x.cell 3
  have x4 := hx2.x.cell 4
  have x5 := hx2.x.cell 5
  have k0 := hk2.cell 0
  have HP : Hid (RetO17 w (isd15 S c) = fun e w' => ∃ A c2, e = .returned (.slice A (isd15 S c).length c2) ∧ Rd w' w'.heap.size A (isd15 S c) ∧ Fa17 w.heap.size A (isd15 S c) ∧ Below w.heap.size w w') := Lib.hid rfl
  have HE : Hid (isd15 S c = if bc then tks15 S (isw15 c) S.T.length else []) := Lib.hid (by rw [isd15, hbc])
  clear hs hx0 hxn hbc hb2 hk2 hx2
  go_enter Try.func49, Try.ntmps49
  go_wp2_with fail
  refine HCC.out.mono ?_
  rintro e w3 ⟨rfl, hb3⟩
  have HX3 := Lib.hid (HX2.out.step hb3)
  have hk3 := HK2.out.below hb3 HK2.out.lt
  have HK3 := Lib.hid hk3
  clear HCC hb3
  cases bc with
  | false =>
    go_wp2_with fail
    go_ret
    rw [HP.out, HE.out]
    exact ⟨none, 0, rfl, fun h => absurd rfl h, fun h => absurd rfl h, HX3.out.b⟩
  | true =>
    have y0 := HX3.out.x.cell 0
    have y1 := HX3.out.x.cell 1
    have y2 := HX3.out.x.cell 2
    have y3 := HX3.out.x.cell 3
    have y4 := HX3.out.x.cell 4
    have y5 := HX3.out.x.cell 5
    have HT := Lib.hid (tickets17i _ S (w.heap.size + 1) w3 HX3.out.st (isw15 c) (fun W hW xu xc xa xk xt xo => isc15 xu xc xa xk xt xo _ c W ((HK3.out.below hW HK3.out.lt).cell 0)))
    go_wp2_with fail
    refine HT.out.mono ?_
    rintro e w4 ⟨A, c2, rfl, hr4, hfa4, hb4⟩
    have HFA := Lib.hid (hfa4.more HX3.out.b.size)
    have HR4 := Lib.hid hr4
    have HB4 := Lib.hid (HX3.out.b.trans (hb4.mono HX3.out.b.size))
    clear HT hr4 hfa4 hb4
    go_wp2_with fail
    go_ret
    rw [HP.out, HE.out]
    exact ⟨A, c2, rfl, HR4.out, HFA.out, HB4.out⟩
/-- What the k-th round is handed. -/
def benc17 (xs : List Nat) (k : Nat) : Array Value := #[.int .i64 ((xs.length - 1 - k : Nat) : Int), .int .i64 ((nth xs (xs.length - 1 - k) : Nat) : Int)]
/-- What must stay behind each round. -/
def bkeep17 (Bs : Nat) (A : Option Addr) (xs : List Nat) (_ : Nat) (p : Addr) : Prop := p.block = Bs ∨ xs ≠ [] ∧ ∃ q, A = some q ∧ p.block = q.block
set_option maxHeartbeats 2000000 in
theorem back17_goes (F : Fence) (n : Nat) (hf : F.fn 43) (hro : F.round = none) (hn : 1 ≤ n) (Bs N c : Nat) (A : Option Addr) (xs : List Nat) (w : World) (hl : xs.length = N) (hi : Rd w w.heap.size A xs) (hN : N ≤ 1000000)
    (hb : w.cell? ⟨Bs, 0, none⟩ = some (.slice A N c)) :
    Goes F n Try.prog 43 #[.pointer (some ⟨Bs, 0, none⟩)] (benc17 xs) (bkeep17 Bs A xs) N w := fun l J Jx W hW _ _ hY h0 => by
  have hBs := World.block_lt_of_cell? w _ hb
  have hb1 := (hW.cell hBs).trans hb
  have HI1 := Lib.hid (hi.below hW (Nat.le_refl _))
  have HLX := Lib.hid hl
  have HWS := Lib.hid hW.size
  clear hb hi hl
  refine callsIn_of_wp Try.func43 rfl hf ?_ hro
  simp only [Try.ntmps43, List.size_toArray, List.length_cons, List.length_nil, Nat.reduceAdd, Nat.reduceSub, Array.replicate_succ, Array.replicate_zero, List.push_toArray, List.append_toArray, List.nil_append, List.cons_append]
  gi_wp2
  gi_loopw [3] (fun i wr => ∃ (m : Nat) (j : Int), i = .int .i64 j ∧ j + 1 = (m : Int) ∧ m ≤ N ∧ J (N - m) wr ∧ wr.cell? ⟨Bs, 0, none⟩ = some (.slice A N c) ∧ Hid (Rd wr w.heap.size A xs))
    (fun i _ => (intOf i + 1).toNat)
  case atStart =>
    exact ⟨N, _, rfl, by omega, Nat.le_refl _, by rw [Nat.sub_self]; exact h0, hb1, HI1⟩
  case round =>
    obtain ⟨m, j, rfl, hj, hm, hJ, hbx, HC⟩ := hrel
    by_cases hpos : 0 < m
    · obtain ⟨q, rfl⟩ : ∃ q, m = q + 1 := ⟨m - 1, by omega⟩
      obtain rfl : j = (q : Int) := by omega
      obtain ⟨gx, ox, hA, hlt, hcx⟩ := HC.out.at_ (show q < xs.length by have := HLX.out; omega)
      have HAX := Lib.hid hA
      rw [hA] at hbx
      have hq0 : (0 : Int) ≤ (q : Int) := by omega
      have hq1 : (q : Int) < (N : Int) := by omega
      obtain ⟨fn, tmps, assign, body, hy, hR⟩ := hY (N - (q + 1)) wr (by omega) hJ
      have he : N - 1 - (N - (q + 1)) = q := by omega
      simp only [benc17, HLX.out, he] at hy
      obtain ⟨xq, hxq⟩ : ∃ x, nth xs q = x := ⟨_, rfl⟩
      rw [hxq] at hcx hy
      clear hxq hA
      clear he
      gi_wp2
      refine hR.mono ?_
      rintro e W3 (⟨rfl, hJ3, hk3⟩ | ⟨rfl, hJx3⟩)
      · have HS : Hid (Same (bkeep17 Bs A xs (N - (q + 1))) wr W3) := Lib.hid hk3
        have HJ := Lib.hid hJ3
        clear hk3 hJ3 hJ
        gi_wp2
        go_roundw
        case rel =>
          exact ⟨q, _, rfl, by omega, by omega, by have := HJ.out; rwa [show N - (q + 1) + 1 = N - q by omega] at this, by rw [HAX.out]; exact HS.out.cell _ _ (.inl rfl) hbx, Lib.hid (fun hx => by
            obtain ⟨b, o, h1, h2, h3⟩ := HC.out hx
            exact ⟨b, o, h1, h2, fun t ht => HS.out.cell _ _ (.inr ⟨hx, _, h1, rfl⟩) (h3 t ht)⟩)⟩
        case measure => first | (simp [intOf]; done) | (simp [intOf]; omega)
      · gi_wp2
        refine bodyPost_ret (results_none rfl _ _ _) rfl ?_
        exact ⟨⟨_, rfl⟩, .inr ⟨_, by omega, hJx3⟩⟩
    · obtain rfl : m = 0 := by omega
      obtain rfl : j = -1 := by omega
      have HJ : Hid (J N wr) := Lib.hid (by simpa using hJ)
      clear hJ
      gi_wp2
      go_end0
      exact ⟨⟨_, rfl⟩, .inl HJ.out⟩
theorem bk17_trans {L g1 : Nat} {r : Option Nat} {w w1 w' : World} (h : Bk13 L g1 r w w1) (h' : Bk13 L g1 r w1 w') : Bk13 L g1 r w w' :=
  ⟨h.below.trans h'.below, Nat.le_trans h.size h'.size, fun b hb h1 h2 => (h'.keep b (Nat.lt_of_lt_of_le hb h.size) h1 h2).trans (h.keep b hb h1 h2)⟩
theorem bk17_below {L g1 : Nat} {r : Option Nat} {w w' : World} (hL : L ≤ w.heap.size) (h : Below w.heap.size w w') : Bk13 L g1 r w w' := ⟨h.mono hL, h.size, fun b hb _ _ => h.block b hb⟩
theorem bk17_set {L g1 : Nat} {r : Option Nat} {w : World} {p : Addr} (hp : L ≤ p.block) (h : p.block = g1 ∨ some p.block = r) (u : Value) : Bk13 L g1 r w (w.setCell p u) :=
  ⟨(Below.refl _ _).setCell hp u, by simp [World.setCell], fun b _ h1 h2 => Below.heap_setCell w p u b (fun e => by
    subst e
    rcases h with h | h
    · exact h1 h
    · exact h2 h)⟩
theorem bk17_others {L g1 g2 n1 n2 : Nat} {M : Nat → Bool} {Am : Nat → Nat} {w w' : World} (h : Bk13 L g1 (some g2) w w') (h1 : Bb13 w g1 n1 M) (h2 : Ib13 w g2 n2 Am) : KeepsOthers w w' :=
  ⟨h.size, fun k o hk ho => by
    have hlt := (Array.getElem?_eq_some_iff.1 hk).1
    refine (h.keep k hlt (fun e => ?_) (fun e => ?_)).trans hk
    · rw [e] at hk
      obtain ⟨cs, hb, _⟩ := h1
      rw [show w.heap[g1]? = _ from hb] at hk
      cases hk
      cases ho
    · injection e with e
      rw [e] at hk
      obtain ⟨cs, hb, _⟩ := h2
      rw [show w.heap[g2]? = _ from hb] at hk
      cases hk
      cases ho⟩
theorem Bb13.far17 {w : World} {g n : Nat} {m : Nat → Bool} (q : Bb13 w g n m) {p : Addr} (hp : g ≠ p.block) (u : Value) : Bb13 (w.setCell p u) g n m := by
  obtain ⟨cs, h1, h2⟩ := q
  exact ⟨cs, h1.far hp u, h2⟩
theorem Bb13.lt17 {w : World} {g n : Nat} {m : Nat → Bool} (q : Bb13 w g n m) : g < w.heap.size := by
  obtain ⟨cs, h1, h2⟩ := q
  exact h1.lt
end Go.Proofs.Ytllcmjdfgbiijaa
