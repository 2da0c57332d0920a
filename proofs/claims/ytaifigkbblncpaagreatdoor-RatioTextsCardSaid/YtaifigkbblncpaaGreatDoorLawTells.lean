/-
  What any numbers are, their order, sums and differences: the walk.
-/
import Derived.Test.YtaifigkbblncpaaGreatDoorLawNatA
import Derived.Test.YtaifigkbblncpaaGreatDoorNatB
import Derived.Test.YtaifigkbblncpaaGreatDoorNatC
import Derived.Test.YtaifigkbblncpaaGreatDoorMP
import Derived.Test.YtaifigkbblncpaaGreatDoorMT
import Derived.Test.YtaifigkbblncpaaGreatDoorNums
import Derived.Test.YtaifigkbblncpaaGreatDoorMS
import Derived.Deep.DeepCutAuto
namespace Go.Proofs.YtaifigkbblncpaaGreatDoor
open Go.RowKit
set_option maxRecDepth 100000

theorem below1n (w : World) (a : Obj) : Below w.heap.size w (w.alloc a) := (Below.refl _ _).alloc (Nat.le_refl _) _
theorem held_thr {wb W W' : World} {p q r : Addr} {a b c : Value} (hb : Below W.heap.size W W') (h : W.cell? p = some a ∧ W.cell? q = some b ∧ W.cell? r = some c ∧ Below wb.heap.size wb W) :
    W'.cell? p = some a ∧ W'.cell? q = some b ∧ W'.cell? r = some c ∧ Below wb.heap.size wb W' := by
  have k : ∀ {a : Addr} {u : Value}, W.cell? a = some u → W'.cell? a = some u := fun h => (hb.cell (World.block_lt_of_cell? W _ h)).trans h
  obtain ⟨h1, h2, h3, h4⟩ := h
  exact ⟨k h1, k h2, k h3, h4.trans (hb.mono h4.size)⟩
theorem num_farN {wb W : World} {L : Nat} {v : Value} {n : Nat} {a b c : Prop} (hn : Num wb L v n) (hs : a ∧ b ∧ c ∧ Below wb.heap.size wb W) : Num W L v n := hn.below hs.2.2.2
theorem ra_farN {wb W : World} {A : Option Addr} {xs : List Nat} {a b c : Prop} (h : Ra wb wb.heap.size A xs) (hs : a ∧ b ∧ c ∧ Below wb.heap.size wb W) : Ra W W.heap.size A xs := (h.below hs.2.2.2 (Nat.le_refl _)).more hs.2.2.2.size
theorem tab_farN {wb W : World} {a b c : Prop} (h : Tab wb) (hs : a ∧ b ∧ c ∧ Below wb.heap.size wb W) : Tab W := h.below hs.2.2.2
theorem bits_fix (A : Option Addr) (xs : List Nat) (n c b : Nat) (w : World) (hl : xs.length = n) (hr : Ra w w.heap.size A xs) (hd : Dg xs) (hn : n ≤ 10000000) (hc : n ≤ c) (hb : IsBits (U xs) b) :
    Calls Tryz.prog 45 #[.slice A n c] w fun e w' => e = .returned (.int .i64 (b : Int)) ∧ Below w.heap.size w w' :=
  (natBits_any A xs n c w hl hr hd hn hc).mono fun e w' ⟨b', h1, h2, h3⟩ => ⟨by rw [h1, IsBits.same h2 hb], by subst h3; exact Below.refl _ _⟩
theorem bits_is (a : Nat) : ∃ b, IsBits a b := by
  rcases Nat.eq_zero_or_pos a with rfl | h
  · exact ⟨0, by decide, .inl rfl⟩
  · exact ⟨a.log2 + 1, Nat.lt_log2_self, .inr (Nat.log2_self_le (by omega))⟩
theorem U_small16 {xs : List Nat} (h : Dg xs) {k : Nat} (hl : xs.length ≤ k) : U xs < 65536 ^ (2 * k) := by
  refine Nat.lt_of_lt_of_le (U_lt h) ?_
  have h1 : (4294967296 : Nat) ^ xs.length ≤ 4294967296 ^ k := Nat.pow_le_pow_right (by omega) hl
  have h2 : (65536 : Nat) ^ (2 * k) = 4294967296 ^ k := by rw [Nat.pow_mul]
  omega

/-- The arguments, and the document's numbers of them in cells of their own. -/
structure TellMem (w : World) (A1 A2 A3 : Option Addr) (xs ys zs : List Nat) (g1 g2 g3 : Nat) (s1 s2 s3 : Value) (wr : World) : Prop where
  below : Below w.heap.size w wr
  ra : Ra wr wr.heap.size A1 xs
  rb : Ra wr wr.heap.size A2 ys
  rc : Ra wr wr.heap.size A3 zs
  x : wr.cell? ⟨g1, 0, none⟩ = some s1
  y : wr.cell? ⟨g2, 0, none⟩ = some s2
  z : wr.cell? ⟨g3, 0, none⟩ = some s3
  nx : ∃ L, Num wr L (.agg #[s1]) (U xs)
  ny : ∃ L, Num wr L (.agg #[s2]) (U ys)
  nz : ∃ L, Num wr L (.agg #[s3]) (U zs)
theorem TellMem.step {w wr w' : World} {A1 A2 A3 : Option Addr} {xs ys zs : List Nat} {g1 g2 g3 : Nat} {s1 s2 s3 : Value} (h : TellMem w A1 A2 A3 xs ys zs g1 g2 g3 s1 s2 s3 wr) (hb : Below wr.heap.size wr w') :
    TellMem w A1 A2 A3 xs ys zs g1 g2 g3 s1 s2 s3 w' := by
  have k : ∀ {a : Addr} {u : Value}, wr.cell? a = some u → w'.cell? a = some u := fun h => (hb.cell (World.block_lt_of_cell? wr _ h)).trans h
  obtain ⟨L1, n1⟩ := h.nx
  obtain ⟨L2, n2⟩ := h.ny
  obtain ⟨L3, n3⟩ := h.nz
  exact ⟨h.below.trans (hb.mono h.below.size), (h.ra.below hb (Nat.le_refl _)).more hb.size, (h.rb.below hb (Nat.le_refl _)).more hb.size, (h.rc.below hb (Nat.le_refl _)).more hb.size, k h.x, k h.y, k h.z, ⟨_, n1.below hb⟩, ⟨_, n2.below hb⟩, ⟨_, n3.below hb⟩⟩

theorem Rows.on {w w' : World} {A : Option Addr} {L : List (List Nat)} {M : Nat} (h : Rows w w.heap.size A L M) (hb : Below w.heap.size w w') : Rows w' w'.heap.size A L M := fun k xs hk => by
  obtain ⟨b, o, A', n', c', h1, h2, h3, h4, h5, h6, h7, h8⟩ := h k xs hk
  exact ⟨b, o, A', n', c', h1, Nat.lt_of_lt_of_le h2 hb.size, (hb.cell (p := ⟨b, o + k, none⟩) h2).trans h3, h4, h5, (h6.below hb (Nat.le_refl _)).more hb.size, h7, h8⟩
theorem rows_new {wb u : World} {A1 A2 A3 : Option Addr} {xs ys zs : List Nat} {n1 c1 n2 c2 n3 c3 : Nat} {a b c : Prop} (t : TypeId) (hl1 : xs.length = n1) (hl2 : ys.length = n2) (hl3 : zs.length = n3) (hc1 : n1 ≤ c1) (hc2 : n2 ≤ c2) (hc3 : n3 ≤ c3)
    (hr1 : Ra wb wb.heap.size A1 xs) (hr2 : Ra wb wb.heap.size A2 ys) (hr3 : Ra wb wb.heap.size A3 zs) (hd1 : Dg xs) (hd2 : Dg ys) (hd3 : Dg zs) (h1 : n1 ≤ 40) (h2 : n2 ≤ 40) (h3 : n3 ≤ 40) (hs : a ∧ b ∧ c ∧ Below wb.heap.size wb u) :
    Rows (u.alloc (.cells #[.slice A1 n1 c1, .slice A2 n2 c2, .slice A3 n3 c3] t)) (u.alloc (.cells #[.slice A1 n1 c1, .slice A2 n2 c2, .slice A3 n3 c3] t)).heap.size (some ⟨u.heap.size, 0, none⟩) [xs, ys, zs] 40 := by
  have hb : Below wb.heap.size wb (u.alloc (.cells #[.slice A1 n1 c1, .slice A2 n2 c2, .slice A3 n3 c3] t)) := hs.2.2.2.trans ((below1n u _).mono hs.2.2.2.size)
  have hk := Blk.new u t #[.slice A1 n1 c1, .slice A2 n2 c2, .slice A3 n3 c3]
  have hlt := hk.lt
  intro k v hv
  match k, hv with
  | 0, hv =>
    obtain rfl : xs = v := by simpa using hv
    exact ⟨_, 0, A1, n1, c1, rfl, hlt, hk.cell 0, hl1, hc1, (hr1.below hb (Nat.le_refl _)).more hb.size, hd1, h1⟩
  | 1, hv =>
    obtain rfl : ys = v := by simpa using hv
    exact ⟨_, 0, A2, n2, c2, rfl, hlt, hk.cell 1, hl2, hc2, (hr2.below hb (Nat.le_refl _)).more hb.size, hd2, h2⟩
  | 2, hv =>
    obtain rfl : zs = v := by simpa using hv
    exact ⟨_, 0, A3, n3, c3, rfl, hlt, hk.cell 2, hl3, hc3, (hr3.below hb (Nat.le_refl _)).more hb.size, hd3, h3⟩
  | k + 3, hv => simp at hv
theorem rows_nil (w : World) : Rows w w.heap.size none [] 0 := fun k xs hk => by simp at hk
theorem nv_zero {w : World} {L : Nat} {v : Value} (h : Nv w L v 0) : ∃ A c, v = .slice A 0 c := by
  obtain ⟨A, c, h1, _, _⟩ := nv_list h Cn.nil rfl (n := 0) rfl
  exact ⟨A, c, h1⟩

end Go.Proofs.YtaifigkbblncpaaGreatDoor
