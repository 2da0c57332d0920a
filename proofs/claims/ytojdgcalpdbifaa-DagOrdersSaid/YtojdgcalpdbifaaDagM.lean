/-
  Arrows: the plain mathematics (no program): ways, rings, the order, and depths.
-/
import Derived.Test.YtojdgcalpdbifaaAliM
namespace Go.Proofs.Ytojdgcalpdbifaa

/-- Those of the arrows that have a part, between n numbers. -/
def cut13 (n : Nat) : List (Int × Int) → List (Nat × Nat)
  | [] => []
  | p :: r => if 0 ≤ p.1 ∧ p.1 < (n : Int) ∧ 0 ≤ p.2 ∧ p.2 < (n : Int) then (p.1.toNat, p.2.toNat) :: cut13 n r else cut13 n r
theorem cut13_append (n : Nat) (l m : List (Int × Int)) : cut13 n (l ++ m) = cut13 n l ++ cut13 n m := by
  induction l with
  | nil => rfl
  | cons p r ih =>
    simp only [List.cons_append, cut13, ih]
    split <;> rfl
theorem cut13_mem {n : Nat} {l : List (Int × Int)} {a b : Nat} : (a, b) ∈ cut13 n l ↔ ((a : Int), (b : Int)) ∈ l ∧ a < n ∧ b < n := by
  induction l with
  | nil => simp [cut13]
  | cons p r ih =>
    obtain ⟨x, y⟩ := p
    simp only [cut13]
    split
    · next h =>
      obtain ⟨h1, h2, h3, h4⟩ : 0 ≤ x ∧ x < (n : Int) ∧ 0 ≤ y ∧ y < (n : Int) := h
      rw [List.mem_cons, List.mem_cons, ih]
      constructor
      · rintro (h | h)
        · injection h with h5 h6
          refine ⟨.inl ?_, by omega, by omega⟩
          rw [show (a : Int) = x by omega, show (b : Int) = y by omega]
        · exact ⟨.inr h.1, h.2⟩
      · rintro ⟨h | h, h5⟩
        · injection h with h6 h7
          left
          rw [show a = x.toNat by omega, show b = y.toNat by omega]
        · exact .inr ⟨h, h5⟩
    · next h =>
      rw [List.mem_cons, ih]
      constructor
      · rintro ⟨h1, h2⟩
        exact ⟨.inr h1, h2⟩
      · rintro ⟨h1 | h1, h2⟩
        · injection h1 with h6 h7
          exact absurd ⟨by show 0 ≤ x; omega, by show x < (n : Int); omega, by show 0 ≤ y; omega, by show y < (n : Int); omega⟩ h
        · exact ⟨h1, h2⟩
theorem cut13_lt {n : Nat} {l : List (Int × Int)} {p : Nat × Nat} (h : p ∈ cut13 n l) : p.1 < n ∧ p.2 < n := by
  obtain ⟨a, b⟩ := p
  exact (cut13_mem.1 h).2
theorem cut13_len (n : Nat) (l : List (Int × Int)) : (cut13 n l).length ≤ l.length := by
  induction l with
  | nil => exact Nat.le_refl _
  | cons p r ih =>
    simp only [cut13]
    split <;> simp <;> omega

/-- All arrows lie between n numbers. -/
def In13 (A : List (Nat × Nat)) (n : Nat) : Prop := ∀ p, p ∈ A → p.1 < n ∧ p.2 < n
/-- Where the arrows of k lead. -/
def outs (A : List (Nat × Nat)) (k : Nat) : List Nat := (A.filter (fun p => p.1 == k)).map (·.2)
theorem outs_mem {A : List (Nat × Nat)} {k j : Nat} : j ∈ outs A k ↔ (k, j) ∈ A := by
  unfold outs
  rw [List.mem_map]
  constructor
  · rintro ⟨⟨a, b⟩, h, rfl⟩
    rw [List.mem_filter] at h
    obtain ⟨h1, h2⟩ := h
    obtain rfl : a = k := by simpa using h2
    exact h1
  · intro h
    exact ⟨(k, j), List.mem_filter.2 ⟨h, by simp⟩, rfl⟩
theorem outs_next (A : List (Nat × Nat)) (a b k : Nat) : outs (A ++ [(a, b)]) k = outs A k ++ if a = k then [b] else [] := by
  unfold outs
  rw [List.filter_append, List.map_append]
  congr 1
  by_cases h : a = k <;> simp [h]
theorem outs_len (A : List (Nat × Nat)) (k : Nat) : (outs A k).length ≤ A.length := by
  unfold outs
  rw [List.length_map]
  exact List.length_filter_le _ _
/-- How many arrows lead to j that come from none of those. -/
def rem13 (A : List (Nat × Nat)) (os : List Nat) (j : Nat) : Nat := A.countP (fun p => p.2 == j && !(os.contains p.1))
theorem rem13_next (A : List (Nat × Nat)) (a b j : Nat) : rem13 (A ++ [(a, b)]) [] j = rem13 A [] j + if b = j then 1 else 0 := by
  unfold rem13
  rw [List.countP_append]
  congr 1
  by_cases h : b = j <;> simp [h]
theorem rem13_le (A : List (Nat × Nat)) (os : List Nat) (j : Nat) : rem13 A os j ≤ A.length := List.countP_le_length
theorem rem13_zero {A : List (Nat × Nat)} {os : List Nat} {j : Nat} : rem13 A os j = 0 ↔ ∀ f, (f, j) ∈ A → f ∈ os := by
  unfold rem13
  rw [List.countP_eq_zero]
  constructor
  · intro h f hf
    have := h (f, j) hf
    simpa using this
  · rintro h ⟨a, b⟩ hp
    by_cases hb : b = j
    · subst hb
      have := h a hp
      simp [this]
    · simp [hb]
theorem rem13_told {A : List (Nat × Nat)} {os : List Nat} {i j : Nat} (hi : i ∉ os) : rem13 A os j = rem13 A (os ++ [i]) j + (outs A i).countP (fun x => x == j) := by
  unfold rem13 outs
  induction A with
  | nil => rfl
  | cons p r ih =>
    obtain ⟨a, b⟩ := p
    by_cases h1 : a = i
    · subst h1
      by_cases h2 : b = j
      · subst h2
        simp [hi] at ih ⊢
        omega
      · simp [h2, hi] at ih ⊢
        omega
    · by_cases h2 : b = j
      · subst h2
        by_cases h3 : a ∈ os
        · simp [h1, h3] at ih ⊢
          omega
        · simp [h1, h3] at ih ⊢
          omega
      · simp [h1, h2] at ih ⊢
        omega

/-- One comes from a to b. -/
inductive Way (A : List (Nat × Nat)) : Nat → Nat → Prop
  | one {a b : Nat} : (a, b) ∈ A → Way A a b
  | step {a b c : Nat} : Way A a b → (b, c) ∈ A → Way A a c
theorem Way.trans {A : List (Nat × Nat)} {a b c : Nat} (h : Way A a b) (k : Way A b c) : Way A a c := by
  induction k with
  | one h1 => exact h.step h1
  | step _ h1 ih => exact ih.step h1
theorem Way.lt {A : List (Nat × Nat)} {n a b : Nat} (hA : In13 A n) (h : Way A a b) : a < n ∧ b < n := by
  induction h with
  | one h1 => exact hA _ h1
  | step _ h1 ih => exact ⟨ih.1, (hA _ h1).2⟩
theorem Way.mono {A B : List (Nat × Nat)} (hAB : ∀ p, p ∈ A → p ∈ B) {a b : Nat} (h : Way A a b) : Way B a b := by
  induction h with
  | one h1 => exact .one (hAB _ h1)
  | step _ h1 ih => exact ih.step (hAB _ h1)
open Classical in
/-- Does one come from a to b? -/
noncomputable def wayb (A : List (Nat × Nat)) (a b : Nat) : Bool := decide (Way A a b)
theorem wayb_yes {A : List (Nat × Nat)} {a b : Nat} : wayb A a b = true ↔ Way A a b := by
  unfold wayb
  exact @decide_eq_true_iff _ (Classical.propDecidable _)
/-- There is a ring. -/
def Rng13 (A : List (Nat × Nat)) : Prop := ∃ i, Way A i i

/-- What is marked while one goes through all that a comes to. -/
structure Snd13 (A : List (Nat × Nat)) (a : Nat) (m : Nat → Bool) : Prop where
  sound : ∀ x, m x = true → Way A a x
theorem mark13 {A : List (Nat × Nat)} {a : Nat} {m : Nat → Bool} (hs : ∀ x, m x = true → Way A a x) (hc : ∀ x y, (x = a ∨ m x = true) → (x, y) ∈ A → m y = true) : ∀ y, m y = wayb A a y := by
  have h1 : ∀ y, Way A a y → m y = true := by
    intro y h
    induction h with
    | one h1 => exact hc _ _ (.inl rfl) h1
    | step _ h1 ih => exact hc _ _ (.inr ih) h1
  intro y
  rw [Bool.eq_iff_iff, wayb_yes]
  exact ⟨hs y, h1 y⟩

/-- i is told next to os, as far as arrows are concerned. -/
def Fre13 (A : List (Nat × Nat)) (n : Nat) (os : List Nat) (i : Nat) : Prop := i < n ∧ i ∉ os ∧ ∀ f, (f, i) ∈ A → f ∈ os
/-- The order so far. -/
inductive Told13 (A : List (Nat × Nat)) (n : Nat) : List Nat → Prop
  | nil : Told13 A n []
  | next {os : List Nat} {i : Nat} : Told13 A n os → Fre13 A n os i → (∀ j, j < i → ¬ Fre13 A n os j) → Told13 A n (os ++ [i])
/-- The order, as far as it goes. -/
def Done13 (A : List (Nat × Nat)) (n : Nat) (os : List Nat) : Prop := Told13 A n os ∧ ∀ i, ¬ Fre13 A n os i
theorem Told13.lt {A : List (Nat × Nat)} {n : Nat} {os : List Nat} (h : Told13 A n os) : ∀ i, i ∈ os → i < n := by
  induction h with
  | nil => intro i hi; cases hi
  | next _ h1 _ ih =>
    intro i hi
    rw [List.mem_append, List.mem_singleton] at hi
    rcases hi with hi | rfl
    · exact ih i hi
    · exact h1.1
theorem Told13.nodup {A : List (Nat × Nat)} {n : Nat} {os : List Nat} (h : Told13 A n os) : os.Nodup := by
  induction h with
  | nil => exact List.nodup_nil
  | next _ h1 _ ih =>
    rw [List.nodup_append]
    refine ⟨ih, by simp, ?_⟩
    rintro a ha b hb rfl
    rw [List.mem_singleton] at hb
    subst hb
    exact h1.2.1 ha
/-- A list of unlike numbers below n is no longer than n. -/
theorem nodup13_len : ∀ (n : Nat) (l : List Nat), l.Nodup → (∀ x, x ∈ l → x < n) → l.length ≤ n := by
  intro n
  induction n with
  | zero =>
    intro l _ h
    cases l with
    | nil => exact Nat.le_refl _
    | cons a r => exact absurd (h a (by simp)) (by omega)
  | succ n ih =>
    intro l hd h
    have h1 := ih (l.erase n) (hd.erase n) (fun x hx => by
      have h2 := h x (List.mem_of_mem_erase hx)
      have h3 : x ≠ n := by
        rintro rfl
        exact (List.Nodup.mem_erase_iff hd).1 hx |>.1 rfl
      omega)
    by_cases hn : n ∈ l
    · rw [List.length_erase_of_mem hn] at h1
      omega
    · rw [List.erase_of_not_mem hn] at h1
      omega
theorem Told13.len {A : List (Nat × Nat)} {n : Nat} {os : List Nat} (h : Told13 A n os) : os.length ≤ n := nodup13_len n os h.nodup h.lt
/-- If all n are told, each one is. -/
theorem full13 : ∀ (n : Nat) (l : List Nat), l.Nodup → (∀ x, x ∈ l → x < n) → l.length = n → ∀ i, i < n → i ∈ l := by
  intro n l hd h hl i hi
  refine Classical.byContradiction (fun hn => ?_)
  have := nodup13_len n (l ++ [i]) (by
    rw [List.nodup_append]
    refine ⟨hd, by simp, ?_⟩
    rintro a ha b hb rfl
    rw [List.mem_singleton] at hb
    subst hb
    exact hn ha) (fun x hx => by
    rw [List.mem_append, List.mem_singleton] at hx
    rcases hx with hx | rfl
    · exact h x hx
    · exact hi)
  rw [List.length_append, List.length_singleton] at this
  omega
theorem Told13.snoc {A : List (Nat × Nat)} {n : Nat} {os : List Nat} {i : Nat} (h : Told13 A n (os ++ [i])) : Told13 A n os ∧ Fre13 A n os i ∧ ∀ j, j < i → ¬ Fre13 A n os j := by
  generalize hq : os ++ [i] = q at h
  cases h with
  | nil => simp at hq
  | next h1 h2 h3 =>
    obtain ⟨rfl, h4⟩ := List.append_inj' hq rfl
    injection h4 with h4
    subst h4
    exact ⟨h1, h2, h3⟩
theorem Told13.take {A : List (Nat × Nat)} {n : Nat} {os : List Nat} (h : Told13 A n os) (k : Nat) : Told13 A n (os.take k) := by
  induction h generalizing k with
  | nil => simpa using Told13.nil
  | @next os i h1 h2 h3 ih =>
    rcases Nat.lt_or_ge os.length k with hk | hk
    · rw [List.take_of_length_le (by simp; omega)]
      exact .next h1 h2 h3
    · rw [List.take_append_of_le_length hk]
      exact ih k
theorem least13_same {P : Nat → Prop} {i j : Nat} (hi : P i) (hi2 : ∀ k, k < i → ¬ P k) (hj : P j) (hj2 : ∀ k, k < j → ¬ P k) : i = j := by
  rcases Nat.lt_trichotomy i j with h | h | h
  · exact absurd hi (hj2 i h)
  · exact h
  · exact absurd hj (hi2 j h)
/-- What is told so far stands at the head of the whole. -/
theorem Told13.head {A : List (Nat × Nat)} {n : Nat} {os zs : List Nat} (h : Told13 A n os) (hz : Done13 A n zs) : os = zs.take os.length := by
  induction h with
  | nil => simp
  | @next os i h1 h2 h3 ih =>
    have hl : os.length < zs.length := by
      refine Nat.lt_of_not_le (fun hle => ?_)
      rw [List.take_of_length_le hle] at ih
      subst ih
      exact hz.2 i h2
    have h4 := hz.1.take (os.length + 1)
    rw [List.take_add_one, List.getElem?_eq_getElem hl, ← ih] at h4
    obtain ⟨_, h5, h6⟩ := h4.snoc
    obtain rfl : i = zs[os.length] := least13_same h2 h3 h5 h6
    rw [List.length_append, List.length_singleton, List.take_add_one, List.getElem?_eq_getElem hl, ← ih]
    rfl
theorem Done13.same {A : List (Nat × Nat)} {n : Nat} {os zs : List Nat} (h : Done13 A n os) (hz : Done13 A n zs) : os = zs := by
  have h1 := h.1.head hz
  have h2 := hz.1.head h
  have h3 : os.length ≤ zs.length := by
    have := congrArg List.length h1
    rw [List.length_take] at this
    omega
  have h4 : zs.length ≤ os.length := by
    have := congrArg List.length h2
    rw [List.length_take] at this
    omega
  rw [List.take_of_length_le h4] at h1
  exact h1
/-- A least one, if there is one. -/
theorem least13_ex {P : Nat → Prop} : (∃ i, P i) → ∃ i, P i ∧ ∀ j, j < i → ¬ P j := by
  rintro ⟨i, hi⟩
  induction i using Nat.strongRecOn with
  | ind i ih =>
    rcases Classical.em (∃ j, j < i ∧ P j) with ⟨j, h1, h2⟩ | h
    · exact ih j h1 h2
    · exact ⟨i, hi, fun j hj hp => h ⟨j, hj, hp⟩⟩
theorem done13_ex (A : List (Nat × Nat)) (n : Nat) : ∃ os, Done13 A n os := by
  suffices H : ∀ (k : Nat) (os : List Nat), Told13 A n os → n ≤ os.length + k → ∃ zs, Done13 A n zs from H n [] .nil (by simp)
  intro k
  induction k with
  | zero =>
    intro os h hl
    refine ⟨os, h, fun i hi => ?_⟩
    have h1 := full13 n os h.nodup h.lt (by have := h.len; omega) i hi.1
    exact hi.2.1 h1
  | succ k ih =>
    intro os h hl
    rcases Classical.em (∃ i, Fre13 A n os i) with h1 | h1
    · obtain ⟨i, h2, h3⟩ := least13_ex h1
      exact ih (os ++ [i]) (.next h h2 h3) (by rw [List.length_append, List.length_singleton]; omega)
    · exact ⟨os, h, fun i hi => h1 ⟨i, hi⟩⟩

/-- D is how deep each one lies. -/
structure Dep13 (A : List (Nat × Nat)) (D : Nat → Nat) : Prop where
  up : ∀ f t, (f, t) ∈ A → D f + 1 ≤ D t
  is : ∀ j, D j = 0 ∨ ∃ f, (f, j) ∈ A ∧ D j = D f + 1
theorem max13_ex (D : Nat → Nat) (l : List Nat) : ∃ m, (∀ f, f ∈ l → D f + 1 ≤ m) ∧ (m = 0 ∨ ∃ f, f ∈ l ∧ m = D f + 1) := by
  induction l with
  | nil => exact ⟨0, by simp, .inl rfl⟩
  | cons a r ih =>
    obtain ⟨m, h1, h2⟩ := ih
    rcases Nat.lt_or_ge m (D a + 1) with h | h
    · refine ⟨D a + 1, fun f hf => ?_, .inr ⟨a, by simp, rfl⟩⟩
      rw [List.mem_cons] at hf
      rcases hf with rfl | hf
      · exact Nat.le_refl _
      · have := h1 f hf
        omega
    · refine ⟨m, fun f hf => ?_, ?_⟩
      · rw [List.mem_cons] at hf
        rcases hf with rfl | hf
        · exact h
        · exact h1 f hf
      · rcases h2 with rfl | ⟨f, h3, h4⟩
        · exact .inl rfl
        · exact .inr ⟨f, by simp [h3], h4⟩
theorem Told13.before {A : List (Nat × Nat)} {n : Nat} {os : List Nat} (h : Told13 A n os) : ∀ f t, (f, t) ∈ A → t ∈ os → f ∈ os := by
  induction h with
  | nil => intro f t _ h; cases h
  | @next os i h1 h2 h3 ih =>
    intro f t hft ht
    rw [List.mem_append, List.mem_singleton] at ht ⊢
    rcases ht with ht | rfl
    · exact .inl (ih f t hft ht)
    · exact .inl (h2.2.2 f hft)
theorem Told13.deep {A : List (Nat × Nat)} {n : Nat} {os : List Nat} (h : Told13 A n os) :
    ∃ D : Nat → Nat, (∀ f t, (f, t) ∈ A → t ∈ os → D f + 1 ≤ D t) ∧ (∀ j, D j = 0 ∨ ∃ f, (f, j) ∈ A ∧ D j = D f + 1) ∧ (∀ j, D j ≤ os.length) ∧ (∀ j, j ∉ os → D j = 0) := by
  induction h with
  | nil => exact ⟨fun _ => 0, by simp, fun _ => .inl rfl, fun _ => Nat.zero_le _, fun _ _ => rfl⟩
  | @next os i h1 h2 h3 ih =>
    obtain ⟨D, e1, e2, e3, e4⟩ := ih
    have hpre := h1.before
    obtain ⟨m, m1, m2⟩ := max13_ex D ((A.filter (fun p => p.2 == i)).map (·.1))
    have hm : ∀ f, f ∈ (A.filter (fun p => p.2 == i)).map (·.1) ↔ (f, i) ∈ A := by
      intro f
      rw [List.mem_map]
      constructor
      · rintro ⟨⟨a, b⟩, h, rfl⟩
        rw [List.mem_filter] at h
        obtain ⟨h1, h2⟩ := h
        obtain rfl : b = i := by simpa using h2
        exact h1
      · intro h
        exact ⟨(f, i), List.mem_filter.2 ⟨h, by simp⟩, rfl⟩
    have hne : ∀ f, (f, i) ∈ A → f ≠ i := by
      rintro f hf rfl
      exact h2.2.1 (h2.2.2 f hf)
    refine ⟨upd D i m, ?_, ?_, ?_, ?_⟩
    · intro f t hft ht
      rw [List.mem_append, List.mem_singleton] at ht
      rcases ht with ht | rfl
      · have h5 := hpre f t hft ht
        have h6 : f ≠ i := by
          rintro rfl
          exact h2.2.1 h5
        have h7 : t ≠ i := by
          rintro rfl
          exact h2.2.1 ht
        rw [upd_far _ _ h6, upd_far _ _ h7]
        exact e1 f t hft ht
      · rw [upd_at, upd_far _ _ (hne f hft)]
        exact m1 f ((hm f).2 hft)
    · intro j
      by_cases hj : j = i
      · subst hj
        rw [upd_at]
        rcases m2 with h | ⟨f, h5, h6⟩
        · exact .inl h
        · have h7 := (hm f).1 h5
          exact .inr ⟨f, h7, by rw [upd_far _ _ (hne f h7)]; exact h6⟩
      · rw [upd_far _ _ hj]
        rcases e2 j with h | ⟨f, h5, h6⟩
        · exact .inl h
        · by_cases hf : f = i
          · subst hf
            by_cases hjo : j ∈ os
            · exact absurd (hpre f j h5 hjo) h2.2.1
            · exact .inl (e4 j hjo)
          · exact .inr ⟨f, h5, by rw [upd_far _ _ hf]; exact h6⟩
    · intro j
      rw [List.length_append, List.length_singleton]
      by_cases hj : j = i
      · subst hj
        rw [upd_at]
        rcases m2 with h | ⟨f, h5, h6⟩
        · omega
        · have := e3 f
          omega
      · rw [upd_far _ _ hj]
        have := e3 j
        omega
    · intro j hj
      rw [List.mem_append, List.mem_singleton] at hj
      rw [upd_far _ _ (fun e => hj (.inr e))]
      exact e4 j (fun h => hj (.inl h))
theorem dep13_ex {A : List (Nat × Nat)} {n : Nat} {os : List Nat} (hA : In13 A n) (h : Told13 A n os) (hl : os.length = n) : ∃ D, Dep13 A D ∧ ∀ j, D j ≤ n := by
  obtain ⟨D, e1, e2, e3, _⟩ := h.deep
  exact ⟨D, ⟨fun f t hft => e1 f t hft (full13 n os h.nodup h.lt hl t (hA _ hft).2), e2⟩, fun j => by rw [← hl]; exact e3 j⟩
theorem Dep13.way {A : List (Nat × Nat)} {D : Nat → Nat} (h : Dep13 A D) {a b : Nat} (hw : Way A a b) : D a < D b := by
  induction hw with
  | one h1 => exact h.up _ _ h1
  | step _ h1 ih =>
    have := h.up _ _ h1
    omega
/-- What is at least as deep as the arrows ask is at least the depth. -/
theorem Dep13.low {A : List (Nat × Nat)} {D O : Nat → Nat} (h : Dep13 A D) (ho : ∀ f t, (f, t) ∈ A → O f + 1 ≤ O t) : ∀ j, D j ≤ O j := by
  suffices H : ∀ (m j : Nat), D j = m → D j ≤ O j from fun j => H _ j rfl
  intro m
  induction m using Nat.strongRecOn with
  | ind m ih =>
    intro j hj
    rcases h.is j with h1 | ⟨f, h1, h2⟩
    · omega
    · have h3 := ih (D f) (by omega) f rfl
      have h4 := ho f j h1
      omega
theorem countP13_lt {p q : Nat → Bool} {l : List Nat} (h : ∀ x, x ∈ l → p x = true → q x = true) {y : Nat} (hy : y ∈ l) (h1 : q y = true) (h2 : p y = false) : l.countP p < l.countP q := by
  induction l with
  | nil => cases hy
  | cons a r ih =>
    rw [List.countP_cons, List.countP_cons]
    have hle : r.countP p ≤ r.countP q := List.countP_mono_left (fun x hx => h x (by simp [hx]))
    rw [List.mem_cons] at hy
    rcases hy with rfl | hy
    · rw [h1, h2]
      simp
      omega
    · have h3 := ih (fun x hx => h x (by simp [hx])) hy
      have h4 := h a (by simp)
      cases hp : p a with
      | false =>
        cases q a <;> simp <;> omega
      | true =>
        rw [h4 hp]
        simp
        omega
/-- Where there is no ring all are told. -/
theorem Done13.full {A : List (Nat × Nat)} {n : Nat} {os : List Nat} (hA : In13 A n) (h : Done13 A n os) (hr : ¬ Rng13 A) : os.length = n := by
  refine Classical.byContradiction (fun hne => ?_)
  have hlt : os.length < n := by have := h.1.len; omega
  have hex : ∃ i, i < n ∧ i ∉ os := by
    refine Classical.byContradiction (fun hn => ?_)
    have h1 : ∀ i, i < n → i ∈ os := fun i hi => Classical.byContradiction (fun h2 => hn ⟨i, hi, h2⟩)
    exact absurd (List.Nodup.length_le_of_subset List.nodup_range (l₂ := os) (fun y hy => h1 y (List.mem_range.1 hy))) (by rw [List.length_range]; omega)
  obtain ⟨i0, hi0, hi1⟩ := hex
  have key : ∀ (m i : Nat), i < n → i ∉ os → (List.range n).countP (fun x => wayb A x i) = m → False := by
    intro m
    induction m using Nat.strongRecOn with
    | ind m ih =>
      intro i h1 h2 h3
      have h4 := h.2 i
      have h5 : ∃ f, (f, i) ∈ A ∧ f ∉ os := by
        refine Classical.byContradiction (fun h5 => h4 ⟨h1, h2, fun f hf => ?_⟩)
        exact Classical.byContradiction (fun h6 => h5 ⟨f, hf, h6⟩)
      obtain ⟨f, hf, hf2⟩ := h5
      have hfn := (hA _ hf).1
      have h6 : (List.range n).countP (fun x => wayb A x f) < (List.range n).countP (fun x => wayb A x i) :=
        countP13_lt (fun x _ hx => wayb_yes.2 ((wayb_yes.1 hx).step hf)) (List.mem_range.2 hfn) (wayb_yes.2 (.one hf)) (by
          cases hb : wayb A f f with
          | false => rfl
          | true => exact absurd ⟨f, wayb_yes.1 hb⟩ hr)
      exact ih _ (by omega) f hfn hf2 rfl
  exact key _ i0 hi0 hi1 rfl
theorem Done13.ring {A : List (Nat × Nat)} {n : Nat} {os : List Nat} (hA : In13 A n) (h : Done13 A n os) : Rng13 A ↔ os.length < n := by
  constructor
  · rintro ⟨i, hi⟩
    have h1 := h.1.len
    refine Classical.byContradiction (fun h2 => ?_)
    obtain ⟨D, hD, _⟩ := dep13_ex hA h.1 (by omega)
    have := hD.way hi
    omega
  · intro h1
    refine Classical.byContradiction (fun h2 => ?_)
    have := h.full hA h2
    omega
end Go.Proofs.Ytojdgcalpdbifaa
