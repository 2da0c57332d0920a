/-
  Sums, differences, products, quotients, order: the walk.
  Sums, differences, products, quotients, order: what the walk's parts ask for.
  Sums, differences, products, quotients, order: the regions.
-/
import Derived.Test.YtaifigkbblncpaaGreatDoorML
import Derived.Test.YtaifigkbblncpaaGreatDoorLawCommon
import Derived.Test.YtaifigkbblncpaaGreatDoorSkip
namespace Go.Proofs.YtaifigkbblncpaaGreatDoor
open Go.RowKit
set_option maxRecDepth 100000

end Go.Proofs.YtaifigkbblncpaaGreatDoor

namespace Go.Proofs.YtaifigkbblncpaaGreatDoor
open Go.RowKit
set_option maxRecDepth 100000

theorem nofrac_yes (w : World) : Calls Tryz.prog 9 #[.agg #[.slice none 0 0, .slice none 0 0]] w fun e w' => e = .returned (.bool true) ∧ Below w.heap.size w w' := by
  go_enter Tryz.func9, Tryz.ntmps9
  go_wp2_with fail
  go_ret
  exact ⟨rfl, b1 _ _⟩

theorem numq_len {w : World} {L n c a : Nat} {A : Option Addr} (h : Num w L (.agg #[.slice A n c]) a) : decide (n = 0) = decide (a = 0) := by
  obtain ⟨A', xs, n', c', hv, hl, _, _, _, hc, rfl⟩ := h
  simp only [Value.agg.injEq, Array.mk.injEq, List.cons.injEq, Value.slice.injEq, and_true] at hv
  obtain ⟨rfl, rfl, rfl⟩ := hv
  rcases Nat.eq_zero_or_pos n with h0 | h0
  · subst h0
    have : xs = [] := List.eq_nil_of_length_eq_zero hl
    subst this
    rfl
  · have hne : xs ≠ [] := fun e => by rw [e] at hl; simp at hl; omega
    have := V_ge hc hne
    have hp : 0 < 65536 ^ (xs.length - 1) := Nat.pow_pos (by omega)
    rw [decide_eq_false (by omega), decide_eq_false (by omega)]

theorem rt_of {X Y : List Nat} (h : rightB X Y = true) : Rt (U X, U Y) := by
  simp only [rightB, Bool.and_eq_true, Bool.not_eq_true', decide_eq_false_iff_not, decide_eq_true_eq] at h
  exact ⟨Nat.pos_of_ne_zero h.2.2.1, h.2.2.2⟩

/-- Right fractions are the same just if neither is more. -/
theorem same_cmp {a b : Nat × Nat} (ha : Rt a) (hb : Rt b) : sameQ a.1 a.2 b.1 b.2 = (cmpI (a.1 * b.2) (b.1 * a.2) == 0) := by
  rw [cmpI_zero]
  unfold sameQ
  by_cases h : a.1 * b.2 = b.1 * a.2
  · have := rt_ext ha hb h
    subst this
    simp
  · rw [decide_eq_false h, Bool.and_eq_false_iff]
    rcases Nat.decEq a.1 b.1 with h1 | h1
    · left; exact decide_eq_false h1
    · right
      refine decide_eq_false fun h2 => h ?_
      rw [h1, h2]
theorem sameQ_self (p q : Nat) : sameQ p q p q = true := by simp [sameQ]
theorem cmpI_neg {a b : Nat} (h : a < b) : (decide (cmpI a b ≥ 0)) = false := by rw [cmpI_lt h]; rfl
theorem cmpI_pos {a b : Nat} (h : b ≤ a) : (decide (cmpI a b ≥ 0)) = true := by
  unfold cmpI
  rw [if_neg (by omega)]
  split <;> rfl
theorem lt_of_rd {X : List Nat} (h : Dg X) {k : Nat} (hk : X.length ≤ k) (hk6 : k ≤ 6) {j : Nat} (hj : j = 12) : U X < 65536 ^ j := by
  subst hj
  exact Nat.lt_of_lt_of_le (U_small_k (2 * k) h hk rfl) (Nat.pow_le_pow_right (by omega) (by omega))
theorem pow16_32 {x j k : Nat} (h : x < 65536 ^ k) (hk : k = 2 * j) : x < 4294967296 ^ j := by
  subst hk
  rwa [Nat.pow_mul, show (65536 : Nat) ^ 2 = 4294967296 by decide] at h

/-- What a difference is: that of the pairs, or none. -/
def DiffP (W : World) (z : Bool) (v1 v2 : Value) (s q : Nat × Nat) : Prop :=
  (z = true ∧ q.1 * s.2 ≤ s.1 * q.2 ∧ (∃ L, Nv W L v1 (subR s q).1) ∧ (∃ L, Nv W L v2 (subR s q).2)) ∨ (z = false ∧ s.1 * q.2 < q.1 * s.2 ∧ v1 = .slice none 0 0 ∧ v2 = .slice none 0 0)
/-- What a quotient is: that of the pairs, or none. -/
def QuotP (W : World) (z : Bool) (v1 v2 : Value) (s q : Nat × Nat) : Prop :=
  (z = true ∧ 0 < q.1 ∧ (∃ L, Nv W L v1 (mulR s (q.2, q.1)).1) ∧ (∃ L, Nv W L v2 (mulR s (q.2, q.1)).2)) ∨ (z = false ∧ q.1 = 0 ∧ v1 = .slice none 0 0 ∧ v2 = .slice none 0 0)
theorem sumback_r {W : World} {g M : Nat} {a b : Nat × Nat} (hr : Rats W W.heap.size (some ⟨g, 0, none⟩) [subR a b, b] M) (ha : Rt a) (hb : Rt b) (hle : b.1 * a.2 ≤ a.1 * b.2) (hM : M ≤ 100) :
    Calls Tryz.prog 17 #[.slice (some ⟨g, 0, none⟩) 2 2] W (RetP W a) := by
  have := sum2_r hr (subR_rt ha.1 hb.1) hb hM
  rwa [sub_back ha hb hle] at this
end Go.Proofs.YtaifigkbblncpaaGreatDoor

namespace Go.Proofs.YtaifigkbblncpaaGreatDoor
open Go.RowKit
set_option maxRecDepth 100000

/-- The operations of a region of a function's body. -/
def regionOf : Code → Nat → Option (Array Oper)
  | .region id ops _, n => if id = n then some ops else none
  | .seq x y, n => (regionOf x n).orElse fun _ => regionOf y n
  | .cond _ x y, n => (regionOf x n).orElse fun _ => regionOf y n
  | .block _ x, n => regionOf x n
  | .loop x, n => regionOf x n
  | _, _ => none
theorem memoH {P : Program} {md : Region.Mode} {ops : Array Oper} {Q : Exit → Act → World → Prop} {S : World → Prop} {f : Nat} {l : Array Bool} {a : Act} {w : World} (I : Act → (Act → World → Prop) → Prop) (f1 : Nat) (l1 : Array Bool)
    (h1 : I a (fun a' w' => wpAnyH P md ops Q S f1 l1 a' w')) (h0 : I a (fun a' w' => wpAnyH P md ops Q S f1 l1 a' w') → wpAnyH P md ops Q S f l a w) : wpAnyH P md ops Q S f l a w := h0 h1

/-- A variable that holds a fraction of the document's. -/
def QBox (W : World) (g a b : Nat) : Prop := ∃ A1 n1 c1 A2 n2 c2, Blk W g 35 #[.slice A1 n1 c1, .slice A2 n2 c2] ∧ (∃ L, Num W L (.agg #[.slice A1 n1 c1]) a) ∧ (∃ L, Num W L (.agg #[.slice A2 n2 c2]) b)

end Go.Proofs.YtaifigkbblncpaaGreatDoor
