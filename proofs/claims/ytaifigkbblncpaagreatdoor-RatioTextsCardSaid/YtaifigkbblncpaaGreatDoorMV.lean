/-
  The document's fractions: sums, differences, products, quotients, the order.
  Package ratio: the order, Same, Floor, products.
  Package ratio: products, quotients, differences.
-/
import Derived.Test.YtaifigkbblncpaaGreatDoorMH
import Derived.Test.YtaifigkbblncpaaGreatDoorMJ
namespace Go.Proofs.YtaifigkbblncpaaGreatDoor
open Go.RowKit
set_option maxRecDepth 100000

theorem mul_lt2 {a b j : Nat} (ha : a < 65536 ^ j) (hb : b < 65536 ^ j) : a * b < 65536 ^ (j + j) := by rw [Nat.pow_add]; exact Nat.mul_lt_mul'' ha hb
theorem lt_up {a J : Nat} (h : a < 65536 ^ J) : a < 65536 ^ (J + 1) := by rw [Nat.pow_succ]; omega
theorem add_lt2 {a b J : Nat} (ha : a < 65536 ^ J) (hb : b < 65536 ^ J) : a + b < 65536 ^ (J + 1) := by rw [Nat.pow_succ]; omega

end Go.Proofs.YtaifigkbblncpaaGreatDoor

namespace Go.Proofs.YtaifigkbblncpaaGreatDoor
open Go.RowKit
set_option maxRecDepth 100000

theorem natCmp_r {v1 v2 : Value} {a b M : Nat} (w : World) (h1 : Nr w v1 a M) (h2 : Nr w v2 b M) (hM : M ≤ 100000) : Calls Tryz.prog 31 #[v1, v2] w fun e w' => e = .returned (.int .i64 (cmpI a b)) ∧ Below w.heap.size w w' := by
  obtain ⟨A1, xs, n1, c1, rfl, hl1, hc1, hr1, hd1, rfl, hn1⟩ := h1
  obtain ⟨A2, ys, n2, c2, rfl, hl2, hc2, hr2, hd2, rfl, hn2⟩ := h2
  exact natCmp_any A1 A2 xs ys n1 c1 n2 c2 w hl1 hl2 hr1 hr2 hd1 hd2 (by omega) (by omega) hc1 hc2

/-- Are both the same? -/
def sameQ (p q r t : Nat) : Bool := decide (p = r) && decide (q = t)
set_option maxHeartbeats 2000000 in
theorem ratioSame_r {v1 v2 v3 v4 : Value} {p q r t M : Nat} (w : World) (h1 : Nr w v1 p M) (h2 : Nr w v2 q M) (h3 : Nr w v3 r M) (h4 : Nr w v4 t M) (hM : M ≤ 1000) :
    Calls Tryz.prog 14 #[.agg #[v1, v2], .agg #[v3, v4]] w fun e w' => e = .returned (.bool (sameQ p q r t)) ∧ Below w.heap.size w w' := by
  obtain ⟨A1, n1, c1, rfl⟩ := h1.shape
  obtain ⟨A2, n2, c2, rfl⟩ := h2.shape
  obtain ⟨A3, n3, c3, rfl⟩ := h3.shape
  obtain ⟨A4, n4, c4, rfl⟩ := h4.shape
  have hbb := b2 w (.cells #[.slice A1 n1 c1, .slice A2 n2 c2] 25) (.cells #[.slice A3 n3 c3, .slice A4 n4 c4] 25)
  have q1 := (Blk.new w 25 #[.slice A1 n1 c1, .slice A2 n2 c2]).alloc (.cells #[.slice A3 n3 c3, .slice A4 n4 c4] 25)
  have q2 := Blk.new (w.alloc (.cells #[.slice A1 n1 c1, .slice A2 n2 c2] 25)) 25 #[.slice A3 n3 c3, .slice A4 n4 c4]
  rw [World.size_alloc] at q2
  have hsz0 : ((w.alloc (.cells #[.slice A1 n1 c1, .slice A2 n2 c2] 25)).alloc (.cells #[.slice A3 n3 c3, .slice A4 n4 c4] 25)).heap.size = w.heap.size + 1 + 1 := by simp
  obtain ⟨Wb, hWb⟩ : ∃ Wb, (w.alloc (.cells #[.slice A1 n1 c1, .slice A2 n2 c2] 25)).alloc (.cells #[.slice A3 n3 c3, .slice A4 n4 c4] 25) = Wb := ⟨_, rfl⟩
  rw [hWb] at hbb q1 q2 hsz0
  have x1 : Wb.cell? ⟨w.heap.size, 0, none⟩ = some (.slice A1 n1 c1) := q1.cell 0
  have x2 : Wb.cell? ⟨w.heap.size, 1, none⟩ = some (.slice A2 n2 c2) := q1.cell 1
  have x3 : Wb.cell? ⟨w.heap.size + 1, 0, none⟩ = some (.slice A3 n3 c3) := q2.cell 0
  have x4 : Wb.cell? ⟨w.heap.size + 1, 1, none⟩ = some (.slice A4 n4 c4) := q2.cell 1
  have Hp := Lib.hid (h1.below hbb)
  have Hq := Lib.hid (h2.below hbb)
  have Hr := Lib.hid (h3.below hbb)
  have Ht := Lib.hid (h4.below hbb)
  have Bp := Lib.hid h1.lt
  have Bq := Lib.hid h2.lt
  have Br := Lib.hid h3.lt
  have Bt := Lib.hid h4.lt
  have e1 := cmpI_zero p r
  have e2 := cmpI_zero q t
  obtain ⟨z1, hz1⟩ : ∃ z, cmpI p r = z := ⟨_, rfl⟩
  obtain ⟨z2, hz2⟩ : ∃ z, cmpI q t = z := ⟨_, rfl⟩
  have hc1 := natCmp_r Wb Hp.out Hr.out (by omega)
  have hc2 := fun wz (h : Below Wb.heap.size Wb wz) => natCmp_r wz (Hq.out.below h) (Ht.out.below h) (by omega)
  simp only [hz1, hz2] at e1 e2 hc1 hc2
  have HC1 := Lib.hid hc1
  have HC2 := Lib.hid hc2
  clear h1 h2 h3 h4 q1 q2 hz1 hz2 hc1 hc2
  by_cases hpr : p = r
  · rw [decide_eq_true hpr] at e1
    obtain ⟨s2, hs2⟩ : ∃ s, decide (q = t) = s := ⟨_, rfl⟩
    rw [hs2] at e2
    have HS : Hid (sameQ p q r t = s2) := Lib.hid (by unfold sameQ; rw [decide_eq_true hpr, hs2]; rfl)
    clear hs2 hpr
    go_enter Tryz.func14, Tryz.ntmps14
    go_wp2_with fail
    refine HC1.out.mono ?_
    rintro en w1 ⟨rfl, hb1⟩
    have y2 := (hb1.cell (World.block_lt_of_cell? _ _ x2)).trans x2
    have y4 := (hb1.cell (World.block_lt_of_cell? _ _ x4)).trans x4
    have HB1 := Lib.hid hb1
    clear hb1
    go_wp2_with fail
    refine (HC2.out w1 HB1.out).mono ?_
    rintro en w2 ⟨rfl, hb2⟩
    go_wp2_with fail
    go_ret
    rw [HS.out]
    exact ⟨rfl, hbb.trans ((HB1.out.trans (hb2.mono HB1.out.size)).mono hbb.size)⟩
  · rw [decide_eq_false hpr] at e1
    have HS : Hid (sameQ p q r t = false) := Lib.hid (by unfold sameQ; rw [decide_eq_false hpr]; rfl)
    clear hpr
    go_enter Tryz.func14, Tryz.ntmps14
    go_wp2_with fail
    refine HC1.out.mono ?_
    rintro en w1 ⟨rfl, hb1⟩
    go_wp2_with fail
    go_ret
    rw [HS.out]
    exact ⟨rfl, hbb.trans (hb1.mono hbb.size)⟩

end Go.Proofs.YtaifigkbblncpaaGreatDoor

namespace Go.Proofs.YtaifigkbblncpaaGreatDoor
open Go.RowKit
set_option maxRecDepth 100000

/-- The product of two fractions, as it is made. -/
def mulQ (s q : Nat × Nat) : Nat × Nat :=
  ((s.1 / Nat.gcd s.1 q.2) * (q.1 / Nat.gcd q.1 s.2), (s.2 / Nat.gcd q.1 s.2) * (q.2 / Nat.gcd s.1 q.2))
/-- The difference of two fractions, as it is made. -/
def subQ (s q : Nat × Nat) : Nat × Nat :=
  ((s.1 * (q.2 / Nat.gcd s.2 q.2) - q.1 * (s.2 / Nat.gcd s.2 q.2)) / Nat.gcd (s.1 * (q.2 / Nat.gcd s.2 q.2) - q.1 * (s.2 / Nat.gcd s.2 q.2)) (Nat.gcd s.2 q.2),
   (s.2 / Nat.gcd s.2 q.2) * (q.2 / Nat.gcd (s.1 * (q.2 / Nat.gcd s.2 q.2) - q.1 * (s.2 / Nat.gcd s.2 q.2)) (Nat.gcd s.2 q.2)))
theorem div_lt_of {a b K : Nat} (h : a < K) : a / b < K := Nat.lt_of_le_of_lt (Nat.div_le_self _ _) h

end Go.Proofs.YtaifigkbblncpaaGreatDoor
