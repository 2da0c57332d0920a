/-
  Alias tables: the plain mathematics (no program): sums over places, what picks a place, and how columns are filled one by one.
-/
import Derived.Test.YtojdgcalpdbifaaMA
namespace Go.Proofs.Ytojdgcalpdbifaa

/-- The sum of f over the places below n. -/
def sm (f : Nat → Nat) : Nat → Nat
  | 0 => 0
  | k + 1 => sm f k + f k
theorem sm_zero (f : Nat → Nat) : sm f 0 = 0 := rfl
theorem sm_succ (f : Nat → Nat) (k : Nat) : sm f (k + 1) = sm f k + f k := rfl
theorem sm_congr {f g : Nat → Nat} {n : Nat} (h : ∀ k, k < n → f k = g k) : sm f n = sm g n := by
  induction n with
  | zero => rfl
  | succ n ih => rw [sm_succ, sm_succ, ih (fun k hk => h k (by omega)), h n (by omega)]
theorem sm_le {f g : Nat → Nat} {n : Nat} (h : ∀ k, k < n → f k ≤ g k) : sm f n ≤ sm g n := by
  induction n with
  | zero => exact Nat.le_refl _
  | succ n ih =>
    have h1 := ih (fun k hk => h k (by omega))
    have h2 := h n (by omega)
    rw [sm_succ, sm_succ]
    omega
theorem sm_same {f g : Nat → Nat} {n : Nat} (h : ∀ k, k < n → f k ≤ g k) (he : sm f n = sm g n) : ∀ k, k < n → f k = g k := by
  induction n with
  | zero => intro k hk; omega
  | succ n ih =>
    have h1 := sm_le (n := n) (fun k hk => h k (by omega))
    have h2 := h n (by omega)
    rw [sm_succ, sm_succ] at he
    intro k hk
    rcases (show k < n ∨ k = n by omega) with h3 | rfl
    · exact ih (fun k hk => h k (by omega)) (by omega) k h3
    · omega
theorem sm_const (a n : Nat) : sm (fun _ => a) n = n * a := by
  induction n with
  | zero => simp [sm]
  | succ n ih => rw [sm_succ, ih, Nat.succ_mul]
theorem sm_mul (a : Nat) (f : Nat → Nat) (n : Nat) : sm (fun k => a * f k) n = a * sm f n := by
  induction n with
  | zero => simp [sm]
  | succ n ih => rw [sm_succ, sm_succ, ih, Nat.mul_add]
theorem sm_add (f g : Nat → Nat) (n : Nat) : sm (fun k => f k + g k) n = sm f n + sm g n := by
  induction n with
  | zero => rfl
  | succ n ih => rw [sm_succ, sm_succ, sm_succ, ih]; omega
theorem sm_pt (f : Nat → Nat) {i n : Nat} (hi : i < n) : f i ≤ sm f n := by
  induction n with
  | zero => omega
  | succ n ih =>
    rw [sm_succ]
    rcases (show i < n ∨ i = n by omega) with h | rfl
    · have := ih h
      omega
    · omega

/-- A function, but for one place. -/
def upd {α : Type} (f : Nat → α) (i : Nat) (x : α) : Nat → α := fun k => if k = i then x else f k
theorem upd_at {α : Type} (f : Nat → α) (i : Nat) (x : α) : upd f i x i = x := if_pos rfl
theorem upd_far {α : Type} (f : Nat → α) {i k : Nat} (x : α) (h : k ≠ i) : upd f i x k = f k := if_neg h
theorem sm_one {f g : Nat → Nat} {i n : Nat} (hi : i < n) (h : ∀ k, k ≠ i → f k = g k) : sm f n + g i = sm g n + f i := by
  induction n with
  | zero => omega
  | succ n ih =>
    rw [sm_succ, sm_succ]
    rcases (show i < n ∨ i = n by omega) with h1 | rfl
    · have := ih h1
      have := h n (by omega)
      omega
    · have := sm_congr (f := f) (g := g) (n := i) (fun k hk => h k (by omega))
      omega
theorem sm_only {f : Nat → Nat} {i n : Nat} (hi : i < n) (h : ∀ k, k ≠ i → f k = 0) : sm f n = f i := by
  have h1 := sm_one (f := f) (g := fun _ => 0) hi (fun k hk => h k hk)
  have h2 := sm_const 0 n
  simp only [Nat.add_zero, Nat.mul_zero] at h1 h2
  omega
theorem sm_none {f : Nat → Nat} {n : Nat} (h : ∀ k, k < n → f k = 0) : sm f n = 0 := by
  rw [sm_congr h, sm_const, Nat.mul_zero]

/-- How many numbers of the first k columns pick i: cuts c, others o. -/
def pt (t : Nat) (c : Nat → Nat) (o : Nat → Int) (i : Int) (k : Nat) : Nat := (if (k : Int) = i then c k else 0) + (if o k = i then t - c k else 0)
def cu (t : Nat) (c : Nat → Nat) (o : Nat → Int) (i : Int) (k : Nat) : Nat := sm (pt t c o i) k
theorem cu_zero (t : Nat) (c : Nat → Nat) (o : Nat → Int) (i : Int) : cu t c o i 0 = 0 := rfl
theorem cu_succ (t : Nat) (c : Nat → Nat) (o : Nat → Int) (i : Int) (k : Nat) : cu t c o i (k + 1) = cu t c o i k + ((if (k : Int) = i then c k else 0) + (if o k = i then t - c k else 0)) := rfl
theorem cu_le {t : Nat} {c : Nat → Nat} {o : Nat → Int} {i : Int} {k : Nat} (h : ∀ j, j < k → c j ≤ t) : cu t c o i k ≤ k * t := by
  rw [← sm_const t k]
  refine sm_le (fun j hj => ?_)
  have := h j hj
  simp only [pt]
  split <;> split <;> omega
theorem cu_out {t : Nat} {c : Nat → Nat} {o : Nat → Int} {i : Int} {n : Nat} (h : ∀ j, j < n → 0 ≤ o j ∧ o j < n) (hi : i < 0 ∨ (n : Int) ≤ i) : cu t c o i n = 0 :=
  sm_none fun k hk => by
    have := h k hk
    rw [pt, if_neg (by omega), if_neg (by omega)]

/-- What the columns give to i beside its own. -/
def gv (t : Nat) (c : Nat → Nat) (o : Nat → Nat) (i n : Nat) : Nat := sm (fun k => if o k = i then t - c k else 0) n
theorem cu_gv {t : Nat} {c : Nat → Nat} {o : Nat → Nat} {i n : Nat} (hi : i < n) : cu t c (fun k => ((o k : Nat) : Int)) (i : Int) n = c i + gv t c o i n := by
  have h1 := sm_add (fun k => if (k : Int) = (i : Int) then c k else 0) (fun k => if ((o k : Nat) : Int) = (i : Int) then t - c k else 0) n
  have h2 := sm_only (f := fun k => if (k : Int) = (i : Int) then c k else 0) hi (fun k hk => if_neg (by omega))
  have h3 : sm (fun k => if ((o k : Nat) : Int) = (i : Int) then t - c k else 0) n = gv t c o i n := sm_congr (fun k _ => by simp only [Int.natCast_inj])
  rw [h2, h3, if_pos rfl] at h1
  exact h1

/-- Where the filling of columns stands: what places hold (h), the columns (c, o), which are done (d), who has too little (ls), and too much (ms). -/
structure Vo (l : Nat → Nat) (t n : Nat) (h c o : Nat → Nat) (d : Nat → Bool) (ls ms : List Nat) : Prop where
  fair : ∀ i, i < n → h i + gv t c o i n = n * l i
  sum : sm (fun k => if d k = true then t else h k) n = n * t
  own : ∀ k, k < n → d k = true → c k = h k ∧ c k ≤ t
  und : ∀ k, k < n → d k = false → c k = t
  oth : ∀ k, k < n → o k < n
  les : ∀ k, k ∈ ls ↔ k < n ∧ d k = false ∧ h k < t
  mus : ∀ k, k ∈ ms ↔ k < n ∧ d k = false ∧ t < h k
  one : ls.Nodup
  two : ms.Nodup
  len : ls.length + ms.length ≤ n
  cap : ∀ k, k < n → h k ≤ n * l k

theorem Vo.much {l : Nat → Nat} {t n : Nat} {h c o : Nat → Nat} {d : Nat → Bool} {ls ms : List Nat} (v : Vo l t n h c o d ls ms) (hl : ls ≠ []) : ms ≠ [] := by
  intro hm
  obtain ⟨a, ha⟩ := List.exists_mem_of_ne_nil _ hl
  obtain ⟨h1, h2, h3⟩ := (v.les a).1 ha
  have hle : ∀ k, k < n → (if d k = true then t else h k) ≤ t := by
    intro k hk
    cases hd : d k with
    | true => simp
    | false =>
      have := (v.mus k)
      rw [hm] at this
      simp only [List.not_mem_nil, false_iff, not_and] at this
      have := this hk hd
      simp only [Bool.false_eq_true, if_false]
      omega
  have := sm_same (f := fun k => if d k = true then t else h k) (g := fun _ => t) hle (by rw [v.sum, sm_const]) a h1
  simp only [h2, Bool.false_eq_true, if_false] at this
  omega
theorem Vo.end_ {l : Nat → Nat} {t n : Nat} {h c o : Nat → Nat} {d : Nat → Bool} {ms : List Nat} (v : Vo l t n h c o d [] ms) : ∀ k, k < n → c k = h k ∧ c k ≤ t := by
  have hle : ∀ k, k < n → t ≤ (if d k = true then t else h k) := by
    intro k hk
    cases hd : d k with
    | true => simp
    | false =>
      have := (v.les k)
      simp only [List.not_mem_nil, false_iff, not_and] at this
      have := this hk hd
      simp only [Bool.false_eq_true, if_false]
      omega
  intro k hk
  cases hd : d k with
  | true => exact v.own k hk hd
  | false =>
    have h1 := sm_same (f := fun _ => t) (g := fun k => if d k = true then t else h k) hle (by rw [v.sum, sm_const]) k hk
    simp only [hd, Bool.false_eq_true, if_false] at h1
    have := v.und k hk hd
    omega
theorem Vo.count {l : Nat → Nat} {t n : Nat} {h c o : Nat → Nat} {d : Nat → Bool} {ms : List Nat} (v : Vo l t n h c o d [] ms) {i : Nat} (hi : i < n) : cu t c (fun k => ((o k : Nat) : Int)) (i : Int) n = n * l i := by
  rw [cu_gv hi, (v.end_ i hi).1]
  exact v.fair i hi

/-- A column is filled: a has too little, g too much. -/
theorem Vo.step {l : Nat → Nat} {t n : Nat} {h c o : Nat → Nat} {d : Nat → Bool} {ls ms : List Nat} {a g : Nat} (v : Vo l t n h c o d (ls ++ [a]) (ms ++ [g])) :
    a < n ∧ g < n ∧ h a < t ∧ t < h g ∧ d a = false ∧
    Vo l t n (upd h g (h g - (t - h a))) (upd c a (h a)) (upd o a g) (upd d a true) (ls ++ if h g - (t - h a) < t then [g] else []) (ms ++ if t < h g - (t - h a) then [g] else []) := by
  obtain ⟨a1, a2, a3⟩ := (v.les a).1 (by simp)
  obtain ⟨g1, g2, g3⟩ := (v.mus g).1 (by simp)
  have hag : a ≠ g := by rintro rfl; omega
  have ca := v.und a a1 a2
  have hls : a ∉ ls := fun hm => by
    have := v.one
    rw [List.nodup_append] at this
    exact this.2.2 a hm a (by simp) rfl
  have hms : g ∉ ms := fun hm => by
    have := v.two
    rw [List.nodup_append] at this
    exact this.2.2 g hm g (by simp) rfl
  have hls1 : ls.Nodup := (List.nodup_append.1 v.one).1
  have hms1 : ms.Nodup := (List.nodup_append.1 v.two).1
  have hlsg : g ∉ ls := fun hm => by have := (v.les g).1 (by simp [hm]); omega
  refine ⟨a1, g1, a3, g3, a2, ?_, ?_, ?_, ?_, ?_, ?_, ?_, ?_, ?_, ?_, ?_⟩
  · intro i hi
    have h1 := v.fair i hi
    have h2 := sm_one (f := fun k => if upd o a g k = i then t - upd c a (h a) k else 0) (g := fun k => if o k = i then t - c k else 0) a1 (fun k hk => by simp only [upd_far _ _ hk])
    simp only [upd_at, ca, Nat.sub_self, ite_self, Nat.add_zero] at h2
    show upd h g (h g - (t - h a)) i + gv t (upd c a (h a)) (upd o a g) i n = n * l i
    unfold gv at h1 ⊢
    rw [h2]
    by_cases hgi : i = g
    · subst hgi
      rw [upd_at, if_pos rfl]
      omega
    · rw [upd_far _ _ hgi, if_neg (fun e => hgi e.symm)]
      omega
  · have h1 := sm_one (f := fun k => if upd d a true k = true then t else upd h g (h g - (t - h a)) k) (g := fun k => if upd d a true k = true then t else h k) g1 (fun k hk => by simp only [upd_far _ _ hk])
    have h2 := sm_one (f := fun k => if upd d a true k = true then t else h k) (g := fun k => if d k = true then t else h k) a1 (fun k hk => by simp only [upd_far _ _ hk])
    have h3 := v.sum
    simp only [upd_at, upd_far _ _ (Ne.symm hag), g2, a2, Bool.false_eq_true, if_false, if_true] at h1 h2
    omega
  · intro k hk hd
    by_cases hka : k = a
    · subst hka
      rw [upd_at, upd_far _ _ hag]
      exact ⟨rfl, by omega⟩
    · rw [upd_far _ _ hka] at hd
      rw [upd_far _ _ hka]
      have h1 := v.own k hk hd
      rw [upd_far _ _ (by rintro rfl; rw [g2] at hd; cases hd)]
      exact h1
  · intro k hk hd
    by_cases hka : k = a
    · subst hka
      rw [upd_at] at hd
      cases hd
    · rw [upd_far _ _ hka] at hd ⊢
      exact v.und k hk hd
  · intro k hk
    by_cases hka : k = a
    · subst hka
      rw [upd_at]
      exact g1
    · rw [upd_far _ _ hka]
      exact v.oth k hk
  · intro k
    have h1 := v.les k
    by_cases hka : k = a
    · subst hka
      rw [upd_at]
      simp only [Bool.true_eq_false, false_and, and_false, iff_false, List.mem_append, not_or]
      refine ⟨hls, ?_⟩
      split <;> simp [hag]
    · rw [upd_far _ _ hka]
      by_cases hkg : k = g
      · subst hkg
        rw [upd_at]
        simp only [List.mem_append, hlsg, false_or, g1, g2, true_and]
        split <;> simp [*]
      · rw [upd_far _ _ hkg, ← h1]
        simp only [List.mem_append]
        split <;> simp [hka, hkg]
  · intro k
    have h1 := v.mus k
    by_cases hka : k = a
    · subst hka
      rw [upd_at]
      simp only [Bool.true_eq_false, false_and, and_false, iff_false, List.mem_append, not_or]
      refine ⟨fun hm => ?_, ?_⟩
      · have := (v.mus k).1 (by simp [hm])
        omega
      · split <;> simp [hag]
    · rw [upd_far _ _ hka]
      by_cases hkg : k = g
      · subst hkg
        rw [upd_at]
        simp only [List.mem_append, hms, false_or, g1, g2, true_and]
        split <;> simp [*]
      · rw [upd_far _ _ hkg, ← h1]
        simp only [List.mem_append]
        split <;> simp [hka, hkg]
  · rw [List.nodup_append]
    refine ⟨hls1, by split <;> simp, fun x hx y hy e => ?_⟩
    subst e
    split at hy <;> simp at hy
    subst hy
    exact hlsg hx
  · rw [List.nodup_append]
    refine ⟨hms1, by split <;> simp, fun x hx y hy e => ?_⟩
    subst e
    split at hy <;> simp at hy
    subst hy
    exact hms hx
  · have h1 := v.len
    simp only [List.length_append, List.length_singleton] at h1 ⊢
    split <;> split <;> simp <;> omega
  · intro k hk
    have h1 := v.cap k hk
    by_cases hkg : k = g
    · subst hkg
      rw [upd_at]
      omega
    · rw [upd_far _ _ hkg]
      exact h1

/-- The lists at the beginning, up to k. -/
def lsf (t : Nat) (h : Nat → Nat) (k : Nat) : List Nat := (List.range k).filter (fun j => decide (h j < t))
def msf (t : Nat) (h : Nat → Nat) (k : Nat) : List Nat := (List.range k).filter (fun j => decide (t < h j))
theorem lsf_zero (t : Nat) (h : Nat → Nat) : lsf t h 0 = [] := rfl
theorem msf_zero (t : Nat) (h : Nat → Nat) : msf t h 0 = [] := rfl
theorem lsf_succ (t : Nat) (h : Nat → Nat) (k : Nat) : lsf t h (k + 1) = lsf t h k ++ if h k < t then [k] else [] := by
  unfold lsf
  rw [List.range_succ, List.filter_append]
  by_cases h1 : h k < t <;> simp [h1]
theorem msf_succ (t : Nat) (h : Nat → Nat) (k : Nat) : msf t h (k + 1) = msf t h k ++ if t < h k then [k] else [] := by
  unfold msf
  rw [List.range_succ, List.filter_append]
  by_cases h1 : t < h k <;> simp [h1]
theorem lsf_len (t : Nat) (h : Nat → Nat) (k : Nat) : (lsf t h k).length + (msf t h k).length ≤ k := by
  induction k with
  | zero => simp [lsf, msf]
  | succ k ih =>
    rw [lsf_succ, msf_succ]
    by_cases h1 : h k < t
    · rw [if_pos h1, if_neg (by omega)]
      simp
      omega
    · rw [if_neg h1]
      split <;> simp <;> omega
theorem Vo.begin {l : Nat → Nat} {t n : Nat} (ht : sm l n = t) {h c o : Nat → Nat} (hh : ∀ k, k < n → h k = n * l k) (hc : ∀ k, k < n → c k = t) (ho : ∀ k, k < n → o k = k) :
    Vo l t n h c o (fun _ => false) (lsf t h n) (msf t h n) := by
  refine ⟨?_, ?_, ?_, fun k hk _ => hc k hk, fun k hk => by rw [ho k hk]; exact hk, ?_, ?_, ?_, ?_, lsf_len t h n, fun k hk => by rw [hh k hk]; exact Nat.le_refl _⟩
  · intro i hi
    unfold gv
    rw [sm_none (fun k hk => by rw [hc k hk, Nat.sub_self, ite_self]), hh i hi, Nat.add_zero]
  · simp only [Bool.false_eq_true, if_false]
    rw [sm_congr hh, sm_mul, ht]
  · intro k _ hd
    cases hd
  · intro k
    simp [lsf]
  · intro k
    simp [msf]
  · exact List.Nodup.sublist List.filter_sublist List.nodup_range
  · exact List.Nodup.sublist List.filter_sublist List.nodup_range
end Go.Proofs.Ytojdgcalpdbifaa
