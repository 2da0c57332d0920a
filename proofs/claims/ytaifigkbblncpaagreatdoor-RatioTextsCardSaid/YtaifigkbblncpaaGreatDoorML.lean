/-
  Fractions: what is made of right fractions is the reduced fraction of the plain formula; right fractions of one value are one.
  Fractions: sums and products of two and three that lie in a slice, as the reduced fractions; the document's as the same.
-/
import Derived.Test.YtaifigkbblncpaaGreatDoorMV
namespace Go.Proofs.YtaifigkbblncpaaGreatDoor
set_option maxRecDepth 100000

/-- A fraction, reduced. -/
def redQ (n d : Nat) : Nat × Nat := (n / Nat.gcd n d, d / Nat.gcd n d)
/-- A right fraction. -/
def Rt (q : Nat × Nat) : Prop := 0 < q.2 ∧ Nat.gcd q.1 q.2 = 1
def addR (s q : Nat × Nat) : Nat × Nat := redQ (s.1 * q.2 + q.1 * s.2) (s.2 * q.2)
def subR (s q : Nat × Nat) : Nat × Nat := redQ (s.1 * q.2 - q.1 * s.2) (s.2 * q.2)
def mulR (s q : Nat × Nat) : Nat × Nat := redQ (s.1 * q.1) (s.2 * q.2)

theorem redQ_ex (n d : Nat) (hd : 0 < d) : ∃ g a b, 0 < g ∧ n = g * a ∧ d = g * b ∧ Nat.gcd a b = 1 ∧ redQ n d = (a, b) ∧ 0 < b := by
  have hg : 0 < Nat.gcd n d := Nat.gcd_pos_of_pos_right n hd
  refine ⟨Nat.gcd n d, n / Nat.gcd n d, d / Nat.gcd n d, hg, (Nat.mul_div_cancel' (Nat.gcd_dvd_left n d)).symm, (Nat.mul_div_cancel' (Nat.gcd_dvd_right n d)).symm, Nat.coprime_div_gcd_div_gcd hg, rfl, ?_⟩
  exact Nat.div_pos (Nat.le_of_dvd hd (Nat.gcd_dvd_right n d)) hg
theorem rt_red (n d : Nat) (hd : 0 < d) : Rt (redQ n d) := by
  obtain ⟨g, a, b, hg, h1, h2, h3, h4, h5⟩ := redQ_ex n d hd
  rw [h4]; exact ⟨h5, h3⟩
theorem red_cross (n d : Nat) (hd : 0 < d) : (redQ n d).1 * d = n * (redQ n d).2 := by
  obtain ⟨g, a, b, hg, h1, h2, h3, h4, h5⟩ := redQ_ex n d hd
  rw [h4]
  show a * d = n * b
  rw [h1, h2]; grind
theorem rt_ext {s q : Nat × Nat} (hs : Rt s) (hq : Rt q) (h : s.1 * q.2 = q.1 * s.2) : s = q := by
  obtain ⟨a, b⟩ := s
  obtain ⟨c, d⟩ := q
  obtain ⟨hb, h1⟩ := hs
  obtain ⟨hd, h2⟩ := hq
  replace h : a * d = c * b := h
  have e1 : b ∣ d := (show Nat.Coprime b a from (Nat.gcd_comm b a).trans h1).dvd_of_dvd_mul_left ⟨c, by rw [h, Nat.mul_comm]⟩
  have e2 : d ∣ b := (show Nat.Coprime d c from (Nat.gcd_comm d c).trans h2).dvd_of_dvd_mul_left ⟨a, by rw [← h, Nat.mul_comm]⟩
  obtain rfl : b = d := Nat.dvd_antisymm e1 e2
  rw [Nat.eq_of_mul_eq_mul_right hb h]
theorem red_congr {n d n' d' : Nat} (hd : 0 < d) (hd' : 0 < d') (h : n * d' = n' * d) : redQ n d = redQ n' d' := by
  obtain ⟨g, a, b, hg, h1, h2, h3, h4, h5⟩ := redQ_ex n d hd
  obtain ⟨g', a', b', hg', h1', h2', h3', h4', h5'⟩ := redQ_ex n' d' hd'
  rw [h4, h4']
  refine rt_ext ⟨h5, h3⟩ ⟨h5', h3'⟩ ?_
  show a * b' = a' * b
  rw [h1, h2, h1', h2'] at h
  refine Nat.eq_of_mul_eq_mul_left (Nat.mul_pos hg hg') ?_
  grind
theorem red_rt {q : Nat × Nat} (h : Rt q) : redQ q.1 q.2 = q := by
  obtain ⟨a, b⟩ := q
  unfold redQ
  rw [h.2]; simp
theorem red_scale (g n : Nat) {b d : Nat} (hg : 0 < g) (h1 : Nat.Coprime n b) (h2 : Nat.Coprime n d) : redQ (g * n) (g * b * (g * d)) = (n / Nat.gcd n g, b * (g * d / Nat.gcd n g)) := by
  have e : Nat.gcd (g * n) (g * b * (g * d)) = g * Nat.gcd n g := by
    have e1 : g * b * (g * d) = g * (b * (d * g)) := by grind
    rw [e1, Nat.gcd_mul_left]
    rw [Nat.Coprime.gcd_mul_left_cancel_right _ h1.symm, Nat.Coprime.gcd_mul_left_cancel_right _ h2.symm]
  unfold redQ
  rw [e]
  have hk : 0 < Nat.gcd n g := Nat.gcd_pos_of_pos_right n hg
  obtain ⟨k, hk1⟩ := Nat.gcd_dvd_left n g
  obtain ⟨m, hm1⟩ := Nat.gcd_dvd_right n g
  obtain ⟨z, hz⟩ : ∃ z, Nat.gcd n g = z := ⟨_, rfl⟩
  rw [hz] at hk hk1 hm1 ⊢
  subst hk1
  subst hm1
  have p1 : z * m * (z * k) / (z * m * z) = k := by
    rw [← Nat.mul_assoc (z * m) z k]; exact Nat.mul_div_cancel_left _ (Nat.mul_pos hg hk)
  have p2 : z * m * b * (z * m * d) / (z * m * z) = b * (m * d) := by
    have : z * m * b * (z * m * d) = (z * m * z) * (b * (m * d)) := by grind
    rw [this]; exact Nat.mul_div_cancel_left _ (Nat.mul_pos hg hk)
  have p3 : z * k / z = k := Nat.mul_div_cancel_left _ hk
  have p4 : z * m * d / z = m * d := by rw [Nat.mul_assoc]; exact Nat.mul_div_cancel_left _ hk
  rw [p1, p2, p3, p4]
theorem gcd_parts {b d : Nat} (hb : 0 < b) : ∃ g b' d', 0 < g ∧ Nat.gcd b d = g ∧ b = g * b' ∧ d = g * d' ∧ b / g = b' ∧ d / g = d' ∧ Nat.Coprime b' d' := by
  have hg : 0 < Nat.gcd b d := Nat.gcd_pos_of_pos_left d hb
  exact ⟨_, _, _, hg, rfl, (Nat.mul_div_cancel' (Nat.gcd_dvd_left b d)).symm, (Nat.mul_div_cancel' (Nat.gcd_dvd_right b d)).symm, rfl, rfl, Nat.coprime_div_gcd_div_gcd hg⟩
theorem cop_of {a b : Nat} (h : ∀ k, k ∣ a → k ∣ b → k ∣ 1) : Nat.Coprime a b := Nat.dvd_one.1 (h _ (Nat.gcd_dvd_left a b) (Nat.gcd_dvd_right a b))

theorem addQ_eq {s q : Nat × Nat} (hs : Rt s) (hq : Rt q) : addQ s q = addR s q := by
  obtain ⟨a, b⟩ := s
  obtain ⟨c, d⟩ := q
  obtain ⟨hb, h1⟩ := hs
  obtain ⟨hd, h2⟩ := hq
  replace h1 : Nat.Coprime a b := h1
  replace h2 : Nat.Coprime c d := h2
  obtain ⟨g, b', d', hg, hgg, rfl, rfl, hb', hd', hc⟩ := gcd_parts (b := b) (d := d) hb
  unfold addQ addR
  simp only [hgg, hb', hd']
  have e1 : a * (g * d') + c * (g * b') = g * (a * d' + c * b') := by grind
  rw [e1]
  have ca : Nat.Coprime a b' := Nat.Coprime.coprime_dvd_right ⟨g, Nat.mul_comm _ _⟩ h1
  have cc : Nat.Coprime c d' := Nat.Coprime.coprime_dvd_right ⟨g, Nat.mul_comm _ _⟩ h2
  have n1 : Nat.Coprime (a * d' + c * b') b' := cop_of fun k hk hb => by
    have : k ∣ a * d' := (Nat.dvd_add_left (Nat.dvd_mul_left_of_dvd hb c)).1 hk
    exact (Nat.Coprime.mul_left ca hc.symm : Nat.gcd (a * d') b' = 1) ▸ Nat.dvd_gcd this hb
  have n2 : Nat.Coprime (a * d' + c * b') d' := cop_of fun k hk hd => by
    have : k ∣ c * b' := (Nat.dvd_add_right (Nat.dvd_mul_left_of_dvd hd a)).1 hk
    exact (Nat.Coprime.mul_left cc hc : Nat.gcd (c * b') d' = 1) ▸ Nat.dvd_gcd this hd
  exact (red_scale g _ hg n1 n2).symm
theorem subQ_eq {s q : Nat × Nat} (hs : Rt s) (hq : Rt q) (hle : q.1 * s.2 ≤ s.1 * q.2) : subQ s q = subR s q := by
  obtain ⟨a, b⟩ := s
  obtain ⟨c, d⟩ := q
  obtain ⟨hb, h1⟩ := hs
  obtain ⟨hd, h2⟩ := hq
  replace h1 : Nat.Coprime a b := h1
  replace h2 : Nat.Coprime c d := h2
  replace hle : c * b ≤ a * d := hle
  obtain ⟨g, b', d', hg, hgg, rfl, rfl, hb', hd', hc⟩ := gcd_parts (b := b) (d := d) hb
  unfold subQ subR
  simp only [hgg, hb', hd']
  have e1 : a * (g * d') - c * (g * b') = g * (a * d' - c * b') := by
    rw [Nat.mul_sub, ← Nat.mul_assoc, ← Nat.mul_assoc, ← Nat.mul_assoc, ← Nat.mul_assoc, Nat.mul_comm a g, Nat.mul_comm c g]
  rw [e1]
  have hle' : c * b' ≤ a * d' := Nat.le_of_mul_le_mul_left (by grind : g * (c * b') ≤ g * (a * d')) hg
  have ca : Nat.Coprime a b' := Nat.Coprime.coprime_dvd_right ⟨g, Nat.mul_comm _ _⟩ h1
  have cc : Nat.Coprime c d' := Nat.Coprime.coprime_dvd_right ⟨g, Nat.mul_comm _ _⟩ h2
  obtain ⟨n, hn⟩ : ∃ n, a * d' - c * b' = n := ⟨_, rfl⟩
  rw [hn]
  have hs : a * d' = n + c * b' := by omega
  have n1 : Nat.Coprime n b' := cop_of fun k hk hb => by
    have : k ∣ a * d' := hs ▸ Nat.dvd_add hk (Nat.dvd_mul_left_of_dvd hb c)
    exact (Nat.Coprime.mul_left ca hc.symm : Nat.gcd (a * d') b' = 1) ▸ Nat.dvd_gcd this hb
  have n2 : Nat.Coprime n d' := cop_of fun k hk hd => by
    have : k ∣ c * b' := (Nat.dvd_add_right hk).1 (hs ▸ Nat.dvd_mul_left_of_dvd hd a)
    exact (Nat.Coprime.mul_left cc hc : Nat.gcd (c * b') d' = 1) ▸ Nat.dvd_gcd this hd
  exact (red_scale g _ hg n1 n2).symm
theorem mulQ_eq {s q : Nat × Nat} (hs : Rt s) (hq : Rt q) : mulQ s q = mulR s q := by
  obtain ⟨a, b⟩ := s
  obtain ⟨c, d⟩ := q
  obtain ⟨hb, h1⟩ := hs
  obtain ⟨hd, h2⟩ := hq
  replace h1 : Nat.Coprime a b := h1
  replace h2 : Nat.Coprime c d := h2
  obtain ⟨g, d', a', hg, hgg, rfl, rfl, hd', ha', hc⟩ := gcd_parts (b := d) (d := a) hd
  obtain ⟨k, b', c', hk, hkk, rfl, rfl, hb', hc', hc2⟩ := gcd_parts (b := b) (d := c) hb
  unfold mulQ mulR redQ
  rw [Nat.gcd_comm] at hgg hkk
  simp only [hgg, hkk, hb', hc', hd', ha']
  have x1 : Nat.Coprime a' b' := Nat.Coprime.coprime_dvd_right ⟨k, Nat.mul_comm _ _⟩ (Nat.Coprime.coprime_dvd_left ⟨g, Nat.mul_comm _ _⟩ h1)
  have x2 : Nat.Coprime c' d' := Nat.Coprime.coprime_dvd_right ⟨g, Nat.mul_comm _ _⟩ (Nat.Coprime.coprime_dvd_left ⟨k, Nat.mul_comm _ _⟩ h2)
  have x3 : Nat.Coprime (a' * c') (b' * d') := Nat.Coprime.mul_left (Nat.Coprime.mul_right x1 hc.symm) (Nat.Coprime.mul_right hc2.symm x2)
  have e1 : g * a' * (k * c') = (g * k) * (a' * c') := by grind
  have e2 : k * b' * (g * d') = (g * k) * (b' * d') := by grind
  have e3 : Nat.gcd (g * a' * (k * c')) (k * b' * (g * d')) = g * k := by rw [e1, e2, Nat.gcd_mul_left, x3, Nat.mul_one]
  rw [e3, e1, e2, Nat.mul_div_cancel_left _ (Nat.mul_pos hg hk), Nat.mul_div_cancel_left _ (Nat.mul_pos hg hk)]

theorem addR_rt {s q : Nat × Nat} (hs : 0 < s.2) (hq : 0 < q.2) : Rt (addR s q) := rt_red _ _ (Nat.mul_pos hs hq)
theorem mulR_rt {s q : Nat × Nat} (hs : 0 < s.2) (hq : 0 < q.2) : Rt (mulR s q) := rt_red _ _ (Nat.mul_pos hs hq)
theorem subR_rt {s q : Nat × Nat} (hs : 0 < s.2) (hq : 0 < q.2) : Rt (subR s q) := rt_red _ _ (Nat.mul_pos hs hq)
theorem addR_zero {q : Nat × Nat} (h : Rt q) : addR (0, 1) q = q := by
  unfold addR; simp [red_rt h]
theorem mulR_one {q : Nat × Nat} (h : Rt q) : mulR (1, 1) q = q := by
  unfold mulR; simp [red_rt h]
theorem add3_eq (a b c : Nat × Nat) (ha : 0 < a.2) (hb : 0 < b.2) (hc : 0 < c.2) : addR (addR a b) c = redQ (a.1 * b.2 * c.2 + b.1 * a.2 * c.2 + c.1 * (a.2 * b.2)) (a.2 * b.2 * c.2) := by
  have h := red_cross (a.1 * b.2 + b.1 * a.2) (a.2 * b.2) (Nat.mul_pos ha hb)
  have hr := (rt_red (a.1 * b.2 + b.1 * a.2) (a.2 * b.2) (Nat.mul_pos ha hb)).1
  unfold addR
  obtain ⟨s, hs⟩ : ∃ s, redQ (a.1 * b.2 + b.1 * a.2) (a.2 * b.2) = s := ⟨_, rfl⟩
  rw [hs] at h hr ⊢
  exact red_congr (Nat.mul_pos hr hc) (Nat.mul_pos (Nat.mul_pos ha hb) hc) (by grind)
theorem mul3_eq (a b c : Nat × Nat) (ha : 0 < a.2) (hb : 0 < b.2) (hc : 0 < c.2) : mulR (mulR a b) c = redQ (a.1 * b.1 * c.1) (a.2 * b.2 * c.2) := by
  have h := red_cross (a.1 * b.1) (a.2 * b.2) (Nat.mul_pos ha hb)
  have hr := (rt_red (a.1 * b.1) (a.2 * b.2) (Nat.mul_pos ha hb)).1
  unfold mulR
  obtain ⟨s, hs⟩ : ∃ s, redQ (a.1 * b.1) (a.2 * b.2) = s := ⟨_, rfl⟩
  rw [hs] at h hr ⊢
  exact red_congr (Nat.mul_pos hr hc) (Nat.mul_pos (Nat.mul_pos ha hb) hc) (by grind)
theorem addR_rot {a b c : Nat × Nat} (ha : 0 < a.2) (hb : 0 < b.2) (hc : 0 < c.2) : addR (addR c a) b = addR (addR a b) c := by
  rw [add3_eq c a b hc ha hb, add3_eq a b c ha hb hc]
  congr 1 <;> grind
/-- what is taken off comes back -/
theorem sub_back {a b : Nat × Nat} (ha : Rt a) (hb : Rt b) (hle : b.1 * a.2 ≤ a.1 * b.2) : addR (subR a b) b = a := by
  have h := red_cross (a.1 * b.2 - b.1 * a.2) (a.2 * b.2) (Nat.mul_pos ha.1 hb.1)
  have hr := (rt_red (a.1 * b.2 - b.1 * a.2) (a.2 * b.2) (Nat.mul_pos ha.1 hb.1)).1
  unfold addR subR
  obtain ⟨s, hs⟩ : ∃ s, redQ (a.1 * b.2 - b.1 * a.2) (a.2 * b.2) = s := ⟨_, rfl⟩
  rw [hs] at h hr ⊢
  obtain ⟨n, hn⟩ : ∃ n, a.1 * b.2 - b.1 * a.2 = n := ⟨_, rfl⟩
  rw [hn] at h
  have hn2 : a.1 * b.2 = n + b.1 * a.2 := by omega
  conv => rhs; rw [← red_rt ha]
  refine red_congr (Nat.mul_pos hr hb.1) ha.1 ?_
  grind
/-- what is divided comes back -/
theorem div_back {a b : Nat × Nat} (ha : Rt a) (hb : Rt b) (hb0 : 0 < b.1) : mulR (mulR a (b.2, b.1)) b = a := by
  rw [mul3_eq a (b.2, b.1) b ha.1 hb0 hb.1]
  conv => rhs; rw [← red_rt ha]
  exact red_congr (Nat.mul_pos (Nat.mul_pos ha.1 hb0) hb.1) ha.1 (by dsimp only; grind)
/-- the order does not hang on what the Dens share -/
theorem share_lt {p q r t : Nat} (hq : 0 < q) : p * (t / Nat.gcd q t) < r * (q / Nat.gcd q t) ↔ p * t < r * q := by
  obtain ⟨g, q', t', hg, hgg, rfl, rfl, hq', ht', hc⟩ := gcd_parts (b := q) (d := t) hq
  rw [hgg, hq', ht']
  have e1 : p * (g * t') = g * (p * t') := by grind
  have e2 : r * (g * q') = g * (r * q') := by grind
  rw [e1, e2]
  exact (Nat.mul_lt_mul_left hg).symm
theorem share_le {p q r t : Nat} (hq : 0 < q) : r * (q / Nat.gcd q t) ≤ p * (t / Nat.gcd q t) ↔ r * q ≤ p * t := by
  have := share_lt (p := p) (t := t) (r := r) hq
  omega
end Go.Proofs.YtaifigkbblncpaaGreatDoor

namespace Go.Proofs.YtaifigkbblncpaaGreatDoor
open Go.RowKit
set_option maxRecDepth 100000

theorem rt_zero : Rt (0, 1) := ⟨Nat.one_pos, rfl⟩
theorem rt_one : Rt (1, 1) := ⟨Nat.one_pos, rfl⟩
theorem add_fold2 {a b : Nat × Nat} (ha : Rt a) (hb : Rt b) : [a, b].foldl addQ (0, 1) = addR a b := by
  simp only [List.foldl_cons, List.foldl_nil]
  rw [addQ_eq rt_zero ha, addR_zero ha, addQ_eq ha hb]
theorem add_fold3 {a b c : Nat × Nat} (ha : Rt a) (hb : Rt b) (hc : Rt c) : [a, b, c].foldl addQ (0, 1) = addR (addR a b) c := by
  simp only [List.foldl_cons, List.foldl_nil]
  rw [addQ_eq rt_zero ha, addR_zero ha, addQ_eq ha hb, addQ_eq (addR_rt ha.1 hb.1) hc]
theorem add_fold3r {a b c : Nat × Nat} (ha : Rt a) (hb : Rt b) (hc : Rt c) : [c, a, b].foldl addQ (0, 1) = addR (addR a b) c := by
  rw [add_fold3 hc ha hb, addR_rot ha.1 hb.1 hc.1]
theorem mul_fold2 {a b : Nat × Nat} (ha : Rt a) (hb : Rt b) : [a, b].foldl mulQ (1, 1) = mulR a b := by
  simp only [List.foldl_cons, List.foldl_nil]
  rw [mulQ_eq rt_one ha, mulR_one ha, mulQ_eq ha hb]
theorem mul_fold3 {a b c : Nat × Nat} (ha : Rt a) (hb : Rt b) (hc : Rt c) : [a, b, c].foldl mulQ (1, 1) = mulR (mulR a b) c := by
  simp only [List.foldl_cons, List.foldl_nil]
  rw [mulQ_eq rt_one ha, mulR_one ha, mulQ_eq ha hb, mulQ_eq (mulR_rt ha.1 hb.1) hc]

theorem ratsN2 {W : World} {g M : Nat} {A1 A2 A3 A4 : Option Addr} {n1 c1 n2 c2 n3 c3 n4 c4 a b c d : Nat} (hk : Blk W g 25 #[.slice A1 n1 c1, .slice A2 n2 c2, .slice A3 n3 c3, .slice A4 n4 c4])
    (h1 : Nr W (.slice A1 n1 c1) a M) (h2 : Nr W (.slice A2 n2 c2) b M) (h3 : Nr W (.slice A3 n3 c3) c M) (h4 : Nr W (.slice A4 n4 c4) d M) :
    Rats W W.heap.size (some ⟨g, 0, none⟩) [(a, b), (c, d)] M := by
  intro k q hq
  match k, hq with
  | 0, hq =>
    obtain rfl : (a, b) = q := by simpa using hq
    exact ⟨_, 0, A1, n1, c1, A2, n2, c2, rfl, hk.lt, hk.cell 0, hk.cell 1, h1, h2⟩
  | 1, hq =>
    obtain rfl : (c, d) = q := by simpa using hq
    exact ⟨_, 0, A3, n3, c3, A4, n4, c4, rfl, hk.lt, hk.cell 2, hk.cell 3, h3, h4⟩
  | k + 2, hq => simp at hq
theorem ratsN3 {W : World} {g M : Nat} {A1 A2 A3 A4 A5 A6 : Option Addr} {n1 c1 n2 c2 n3 c3 n4 c4 n5 c5 n6 c6 a b c d e f : Nat} (hk : Blk W g 25 #[.slice A1 n1 c1, .slice A2 n2 c2, .slice A3 n3 c3, .slice A4 n4 c4, .slice A5 n5 c5, .slice A6 n6 c6])
    (h1 : Nr W (.slice A1 n1 c1) a M) (h2 : Nr W (.slice A2 n2 c2) b M) (h3 : Nr W (.slice A3 n3 c3) c M) (h4 : Nr W (.slice A4 n4 c4) d M) (h5 : Nr W (.slice A5 n5 c5) e M) (h6 : Nr W (.slice A6 n6 c6) f M) :
    Rats W W.heap.size (some ⟨g, 0, none⟩) [(a, b), (c, d), (e, f)] M := by
  intro k q hq
  match k, hq with
  | 0, hq =>
    obtain rfl : (a, b) = q := by simpa using hq
    exact ⟨_, 0, A1, n1, c1, A2, n2, c2, rfl, hk.lt, hk.cell 0, hk.cell 1, h1, h2⟩
  | 1, hq =>
    obtain rfl : (c, d) = q := by simpa using hq
    exact ⟨_, 0, A3, n3, c3, A4, n4, c4, rfl, hk.lt, hk.cell 2, hk.cell 3, h3, h4⟩
  | 2, hq =>
    obtain rfl : (e, f) = q := by simpa using hq
    exact ⟨_, 0, A5, n5, c5, A6, n6, c6, rfl, hk.lt, hk.cell 4, hk.cell 5, h5, h6⟩
  | k + 3, hq => simp at hq

/-- a fraction that is made, by its pair -/
def RetP (w : World) (q : Nat × Nat) (e : Ending) (w' : World) : Prop := RetQ w q.1 q.2 e w'
theorem sum3_r {W : World} {g M : Nat} {q1 q2 q3 : Nat × Nat} (hr : Rats W W.heap.size (some ⟨g, 0, none⟩) [q1, q2, q3] M) (h1 : Rt q1) (h2 : Rt q2) (h3 : Rt q3) (hM : M ≤ 100) :
    Calls Tryz.prog 17 #[.slice (some ⟨g, 0, none⟩) 3 3] W (RetP W (addR (addR q1 q2) q3)) := by
  have := ratioAdd_r (some ⟨g, 0, none⟩) [q1, q2, q3] 3 3 M W rfl hr (by omega) hM
  rw [add_fold3 h1 h2 h3] at this; exact this
theorem sum3r_r {W : World} {g M : Nat} {q1 q2 q3 : Nat × Nat} (hr : Rats W W.heap.size (some ⟨g, 0, none⟩) [q3, q1, q2] M) (h1 : Rt q1) (h2 : Rt q2) (h3 : Rt q3) (hM : M ≤ 100) :
    Calls Tryz.prog 17 #[.slice (some ⟨g, 0, none⟩) 3 3] W (RetP W (addR (addR q1 q2) q3)) := by
  have := ratioAdd_r (some ⟨g, 0, none⟩) [q3, q1, q2] 3 3 M W rfl hr (by omega) hM
  rw [add_fold3r h1 h2 h3] at this; exact this
theorem sum2_r {W : World} {g M : Nat} {q1 q2 : Nat × Nat} (hr : Rats W W.heap.size (some ⟨g, 0, none⟩) [q1, q2] M) (h1 : Rt q1) (h2 : Rt q2) (hM : M ≤ 100) :
    Calls Tryz.prog 17 #[.slice (some ⟨g, 0, none⟩) 2 2] W (RetP W (addR q1 q2)) := by
  have := ratioAdd_r (some ⟨g, 0, none⟩) [q1, q2] 2 2 M W rfl hr (by omega) hM
  rw [add_fold2 h1 h2] at this; exact this
/-- A quotient, by the pairs. -/
theorem rt_flip {b : Nat × Nat} (hb : Rt b) (h0 : 0 < b.1) : Rt (b.2, b.1) := ⟨h0, (Nat.gcd_comm _ _).trans hb.2⟩
theorem redQ_lt {n d K : Nat} (hn : n < K) (hd : d < K) : (redQ n d).1 < K ∧ (redQ n d).2 < K := ⟨div_lt_of hn, div_lt_of hd⟩
theorem addR_lt {s q : Nat × Nat} {j : Nat} (h1 : s.1 < 65536 ^ j) (h2 : s.2 < 65536 ^ j) (h3 : q.1 < 65536 ^ j) (h4 : q.2 < 65536 ^ j) : (addR s q).1 < 65536 ^ (j + j + 1) ∧ (addR s q).2 < 65536 ^ (j + j + 1) :=
  redQ_lt (add_lt2 (mul_lt2 h1 h4) (mul_lt2 h3 h2)) (lt_up (mul_lt2 h2 h4))
theorem subR_lt {s q : Nat × Nat} {j : Nat} (h1 : s.1 < 65536 ^ j) (h2 : s.2 < 65536 ^ j) (h4 : q.2 < 65536 ^ j) : (subR s q).1 < 65536 ^ (j + j) ∧ (subR s q).2 < 65536 ^ (j + j) :=
  redQ_lt (Nat.lt_of_le_of_lt (Nat.sub_le _ _) (mul_lt2 h1 h4)) (mul_lt2 h2 h4)
theorem mulR_lt {s q : Nat × Nat} {j : Nat} (h1 : s.1 < 65536 ^ j) (h2 : s.2 < 65536 ^ j) (h3 : q.1 < 65536 ^ j) (h4 : q.2 < 65536 ^ j) : (mulR s q).1 < 65536 ^ (j + j) ∧ (mulR s q).2 < 65536 ^ (j + j) :=
  redQ_lt (mul_lt2 h1 h3) (mul_lt2 h2 h4)
theorem up16 {x j k : Nat} (h : x < 65536 ^ j) (hk : j ≤ k) : x < 65536 ^ k := Nat.lt_of_lt_of_le h (Nat.pow_le_pow_right (by omega) hk)

/-- The document's fraction that is made, by its pair. -/
def RetE (w : World) (q : Nat × Nat) (e : Ending) (w' : World) : Prop := RetD w q.1 q.2 e w'
/-- Two numbers of the document's that make a fraction. -/
def QNum (w : World) (B1 : Option Addr) (i1 e1 : Nat) (B2 : Option Addr) (i2 e2 : Nat) (q : Nat × Nat) : Prop := (∃ L, Num w L (.agg #[.slice B1 i1 e1]) q.1) ∧ (∃ L, Num w L (.agg #[.slice B2 i2 e2]) q.2)
theorem QNum.below {w w' : World} {B1 B2 : Option Addr} {i1 e1 i2 e2 : Nat} {q : Nat × Nat} (h : QNum w B1 i1 e1 B2 i2 e2 q) (hb : Below w.heap.size w w') : QNum w' B1 i1 e1 B2 i2 e2 q := by
  obtain ⟨⟨L, h1⟩, ⟨L', h2⟩⟩ := h
  exact ⟨⟨L, h1.below hb⟩, ⟨L', h2.below hb⟩⟩
def Lt4 (s q : Nat × Nat) (j : Nat) : Prop := s.1 < 65536 ^ j ∧ s.2 < 65536 ^ j ∧ q.1 < 65536 ^ j ∧ q.2 < 65536 ^ j
/-- The same, when the program's and the document's are of one pair. -/
theorem sameq_r {A1 A2 B1 B2 : Option Addr} {n1 c1 n2 c2 i1 e1 i2 e2 L1 L2 j : Nat} {q : Nat × Nat} (w : World) (h1 : Nv w L1 (.slice A1 n1 c1) q.1) (h2 : Nv w L2 (.slice A2 n2 c2) q.2) (h3 : QNum w B1 i1 e1 B2 i2 e2 q) (ha : q.1 < 65536 ^ j) (hb : q.2 < 65536 ^ j) (hj : j ≤ 1000) :
    Calls Tryz.prog 8 #[.agg #[.slice A1 n1 c1, .slice A2 n2 c2], .agg #[.slice B1 i1 e1, .slice B2 i2 e2]] w fun e w' => e = .returned (.bool true) ∧ Below w.heap.size w w' := by
  obtain ⟨⟨L3, a3⟩, ⟨L4, a4⟩⟩ := h3
  exact same4_r w h1 h2 a3 a4 ha hb hj
end Go.Proofs.YtaifigkbblncpaaGreatDoor
