/-
  Fractions: the common number of any many.
-/
import Derived.Test.YtemalomcdiahiaaDoorRatC
namespace Go.Proofs.YtemalomcdiahiaaDoor
open Go.RowKit
set_option maxRecDepth 100000

theorem info_nat : (Tryd.prog.info? 23).map (fun i => (i.zero, i.size, i.bytes)) = some (some (.slice none 0 0), 1, 24) := by kernel_rfl

/-- The least number that all divide. -/
def lcmAll (L : List (Nat × Nat)) : Nat := L.foldl (fun m q => Nat.lcm m q.2) 1
theorem lcm_small {a b K M : Nat} (ha : a < 4294967296 ^ K) (hb : b < 4294967296 ^ M) : Nat.lcm a b < 4294967296 ^ (K + M) := Nat.lt_of_le_of_lt (lcm_le a b) (mul_small ha hb)
theorem lcmTo_small {L : List (Nat × Nat)} {M : Nat} (h : ∀ q ∈ L, q.2 < 4294967296 ^ M) : lcmAll L < 4294967296 ^ (L.length * M + 1) := by
  have key : ∀ (L : List (Nat × Nat)) (m K : Nat), (∀ q ∈ L, q.2 < 4294967296 ^ M) → m < 4294967296 ^ K → L.foldl (fun m q => Nat.lcm m q.2) m < 4294967296 ^ (L.length * M + K) := by
    intro L
    induction L with
    | nil => intro m K _ hm; simpa using hm
    | cons q r ih =>
      intro m K hq hm
      have := ih (Nat.lcm m q.2) (K + M) (fun x hx => hq x (by simp [hx])) (lcm_small hm (hq q (by simp)))
      simp only [List.foldl_cons, List.length_cons]
      rwa [show (r.length + 1) * M + K = r.length * M + (K + M) by rw [Nat.add_mul]; omega]
  exact key L 1 1 h (by simp)

/-- The parts that are there. -/
def Parts (W : World) (B g k n : Nat) (f : Nat → Nat) (ps : List Value) : Prop :=
  ps.length = n ∧ (∀ j, j < k → ∃ A n' c', ps[j]? = some (.slice A n' c') ∧ Nv W B (.slice A n' c') (f j)) ∧ (∀ j, k ≤ j → j < n → ps[j]? = some (.slice none 0 0)) ∧ Blk W g 23 ps.toArray
theorem Parts.below {W W' : World} {B g k n : Nat} {f : Nat → Nat} {ps : List Value} (h : Parts W B g k n f ps) (hb : Below W.heap.size W W') : Parts W' B g k n f ps := by
  obtain ⟨h1, h2, h3, h4⟩ := h
  refine ⟨h1, fun j hj => ?_, h3, h4.below hb h4.lt⟩
  obtain ⟨A, n', c', e, hn⟩ := h2 j hj
  exact ⟨A, n', c', e, hn.below hb⟩
theorem Parts.cell {W : World} {B g k n j : Nat} {f : Nat → Nat} {ps : List Value} (h : Parts W B g k n f ps) (hj : j < n) : ∃ A n' c', W.cell? ⟨g, j, none⟩ = some (.slice A n' c') := by
  obtain ⟨h1, h2, h3, h4⟩ := h
  have e : W.cell? ⟨g, j, none⟩ = ps[j]? := by rw [h4.cell j]; simp
  rcases Nat.lt_or_ge j k with h5 | h5
  · obtain ⟨A, n', c', e', _⟩ := h2 j h5
    exact ⟨A, n', c', e.trans e'⟩
  · exact ⟨none, 0, 0, e.trans (h3 j h5 hj)⟩
theorem Parts.put {W : World} {B g k n : Nat} {f : Nat → Nat} {ps : List Value} {A : Option Addr} {n' c' : Nat} (h : Parts W B g k n f ps) (hk : k < n) (hv : Nv W B (.slice A n' c') (f k)) :
    Parts (W.setCell ⟨g, k, none⟩ (.slice A n' c')) B g (k + 1) n f (ps.set k (.slice A n' c')) := by
  obtain ⟨A0, m0, d0, hc⟩ := h.cell hk
  obtain ⟨h1, h2, h3, h4⟩ := h
  refine ⟨by simp [h1], fun j hj => ?_, fun j hj hn => by rw [List.getElem?_set_ne (by omega)]; exact h3 j (by omega) hn, ?_⟩
  · rcases Nat.lt_or_ge j k with h5 | h5
    · obtain ⟨A1, m1, d1, e, hn⟩ := h2 j h5
      exact ⟨A1, m1, d1, by rw [List.getElem?_set_ne (by omega)]; exact e, hn.setS hc⟩
    · obtain rfl : j = k := by omega
      exact ⟨A, n', c', by rw [List.getElem?_set_self (by omega)], hv.setS hc⟩
  · have := h4.set_ k (.slice A n' c')
    simpa using this

/-- The part of one of them. -/
def partOf (L : List (Nat × Nat)) (j : Nat) : Nat := match L[j]? with
  | some q => q.1 * (lcmAll L / q.2)
  | none => 0
theorem partOf_eq {L : List (Nat × Nat)} {j : Nat} {q : Nat × Nat} (h : L[j]? = some q) : partOf L j = q.1 * (lcmAll L / q.2) := by unfold partOf; rw [h]
theorem parts_made {W : World} {B g n : Nat} {f : Nat → Nat} (h : W.ownsRow g 23 1 (.slice (some ⟨g, 0, none⟩) n n) n (madeCells (Value.slice none 0 0).cells (n * 1)).toList) : Parts W B g 0 n f (List.replicate n (.slice none 0 0)) := by
  refine ⟨by simp, fun j hj => by omega, fun j _ hj => by simp [hj], ?_⟩
  rcases h.2 with ⟨h, _⟩ | ⟨g', cap, c, hv, _, hh, _, _, hsz, ht⟩
  · injection h with h; cases h
  · injection hv with hv _ hcap
    injection hv with hv
    injection hv with hv
    subst hv hcap
    unfold Blk
    rw [hh]
    have : c = (List.replicate n (Value.slice none 0 0)).toArray := by
      have e : (madeCells (Value.slice none 0 0).cells (n * 1)).toList = List.replicate n (Value.slice none 0 0) := by
        apply List.ext_getElem
        · simp [madeCells]
        · intro i h1 h2
          simp [madeCells, Value.cells, Nat.mod_one]
      rw [← e, ← ht, List.take_of_length_le (by simp; omega)]
    rw [this]
theorem Parts.kept1 {W : World} {B g k n : Nat} {f : Nat → Nat} {ps : List Value} (h : Parts W B g k n f ps) (o : Obj) : Parts (W.alloc o) B g k n f ps := h.below (b1 W o)
/-- What Common answers. -/
def CommonRet (w : World) (L : List (Nat × Nat)) (n : Nat) (e : Ending) (w' : World) : Prop := ∃ A1 n1 c1 g ps, e = .returned (.tuple #[.slice A1 n1 c1, .slice (some ⟨g, 0, none⟩) n n]) ∧ Nv w' w.heap.size (.slice A1 n1 c1) (lcmAll L) ∧
  Parts w' w.heap.size g n n (partOf L) ps ∧ w.heap.size ≤ g ∧ Below w.heap.size w w'

theorem cells2 {W W' : World} {p q : Addr} {a b : Value} (hb : Below W.heap.size W W') (h : W.cell? p = some a ∧ W.cell? q = some b) : W'.cell? p = some a ∧ W'.cell? q = some b :=
  ⟨(hb.cell (World.block_lt_of_cell? W _ h.1)).trans h.1, (hb.cell (World.block_lt_of_cell? W _ h.2)).trans h.2⟩
theorem cells2_put {W : World} {g g' i j k : Nat} {a b u : Value} (hne : g' ≠ g) (h : W.cell? ⟨g, i, none⟩ = some a ∧ W.cell? ⟨g, k, none⟩ = some b) : (W.setCell ⟨g', j, none⟩ u).cell? ⟨g, i, none⟩ = some a ∧ (W.setCell ⟨g', j, none⟩ u).cell? ⟨g, k, none⟩ = some b :=
  ⟨(World.cell?_setCell_other _ _ _ _ (by intro e; injection e; omega)).trans h.1, (World.cell?_setCell_other _ _ _ _ (by intro e; injection e; omega)).trans h.2⟩
theorem drew_then {W W' : World} (h : Below W.drew.heap.size W.drew W') : Below W.heap.size W W' := (show Below W.heap.size W W.drew from (Below.refl _ _).drew).trans h

set_option maxHeartbeats 8000000 in
theorem common_r (A : Option Addr) (L : List (Nat × Nat)) (n c M : Nat) (w : World) (hl : L.length = n) (hr : Rats w w.heap.size A L M) (hn : n ≤ 20) (hM : M ≤ 100) :
    Calls Tryd.prog 36 #[.slice A n c] w (CommonRet w L n) := by
  have HL := Lib.hid hl
  have HR := Lib.hid hr
  have hqM : ∀ (k : Nat) (q : Nat × Nat), L[k]? = some q → q.1 < 4294967296 ^ M ∧ q.2 < 4294967296 ^ M := fun k q hq => by
    obtain ⟨_, _, _, _, _, _, _, _, _, _, _, _, h5, h6⟩ := hr k q hq
    exact ⟨h5.lt, h6.lt⟩
  obtain ⟨E, hE1, hE2⟩ : ∃ E, 2001 ≤ E ∧ E ≤ 2001 := ⟨2001, Nat.le_refl _, Nat.le_refl _⟩
  obtain ⟨F, hF1, hF2⟩ : ∃ F, 2200 ≤ F ∧ F ≤ 2200 := ⟨2200, Nat.le_refl _, Nat.le_refl _⟩
  have hsm : ∀ k, lcmAll (L.take k) < 4294967296 ^ E := fun k => by
    have h := lcmTo_small (L := L.take k) (M := M) (fun q hq => by
      obtain ⟨i, hi, he⟩ := List.getElem_of_mem (List.mem_of_mem_take hq)
      exact (hqM i q (by rw [List.getElem?_eq_getElem hi, he])).2)
    have h1 : (L.take k).length * M ≤ 20 * 100 := Nat.mul_le_mul (by simp; omega) hM
    exact pow_up E h (by omega)
  have HQM := Lib.hid hqM
  have HSM := Lib.hid hsm
  clear hl hr hqM hsm
  have h1of := natOf_any 1
  go_enter Tryd.func36, Tryd.ntmps36
  go_wp2_with fail
  refine (h1of w (by omega)).mono ?_
  rintro e w1 ⟨v1, rfl, hv1, hb1⟩
  obtain ⟨B1, i1, e1, rfl⟩ := hv1.shape
  have HV1 := Lib.hid hv1
  clear hv1 h1of
  go_wp2_with fail
  go_loopw [4, 13] (fun cv iv wr => ∃ (k : Nat) (A1 : Option Addr) (n1 c1 : Nat), iv = .int .i64 (k : Int) ∧ k ≤ n ∧ cv = .slice A1 n1 c1 ∧ Nv wr w.heap.size (.slice A1 n1 c1) (lcmAll (L.take k)) ∧ Below w.heap.size w wr) (fun _ iv _ => n - (intOf iv).toNat)
  case atStart => exact ⟨0, B1, i1, e1, rfl, by omega, rfl, HV1.out, hb1⟩
  case round =>
    clear HV1 hb1
    obtain ⟨k, A1, n1, c1, rfl, hk, rfl, hnv, hB⟩ := hrel
    have HNV := Lib.hid hnv
    have hBs := hB.size
    clear hnv
    by_cases hkn : k < n
    · obtain ⟨q, hq⟩ : ∃ q, L[k]? = some q := ⟨_, List.getElem?_eq_getElem (by have := HL.out; omega)⟩
      obtain ⟨b, o, A3, n3, c3, A4, n4, c4, hA, hbl, d0, d1, hq1, hq2⟩ := (HR.out.below hB) k q hq
      subst hA
      have HQ := Lib.hid hq
      have hk0 : (0 : Int) ≤ (k : Int) := by omega
      have hk1 : (k : Int) < (n : Int) := by omega
      have hba := b1 wr (.cells #[.slice A3 n3 c3, .slice A4 n4 c4] 27)
      have hlcm := lcm_r _ (((HNV.out.below hba).nr (HSM.out k)).more (M' := F) (by omega)) ((hq2.below hba).more (M' := F) (by omega)) (by omega)
      clear hq hq1 hq2
      go_wp2_with fail
      refine hlcm.mono ?_
      rintro e w2 ⟨v2, rfl, hv2, hb2⟩
      obtain ⟨B2, i2, e2, rfl⟩ := hv2.shape
      have hnext : lcmAll (L.take (k + 1)) = Nat.lcm (lcmAll (L.take k)) q.2 := by rw [take_snoc_some HQ.out, lcmAll, List.foldl_append]; rfl
      have HV2 : Hid (Nv w2 w.heap.size (.slice B2 i2 e2) (lcmAll (L.take (k + 1)))) := Lib.hid (by rw [hnext]; exact hv2.more (Nat.le_trans hBs hba.size))
      have hB2 := (hB.trans (hba.mono hBs)).trans (hb2.mono (Nat.le_trans hBs hba.size))
      clear hv2 hnext hlcm hb2 hba
      go_wp2_with fail
      go_roundw
      case rel => exact ⟨k + 1, B2, i2, e2, by go_num, by omega, rfl, HV2.out, hB2⟩
      case measure => simp [intOf]; omega
    · obtain rfl : k = n := by omega
      have hfin : lcmAll (L.take k) = lcmAll L := by rw [List.take_of_length_le (by have := HL.out; omega)]
      have hsmL : lcmAll L < 4294967296 ^ E := by rw [← hfin]; exact HSM.out k
      have HC : Hid (Nv wr w.heap.size (.slice A1 n1 c1) (lcmAll L)) := Lib.hid (by rw [← hfin]; exact HNV.out)
      have HSL := Lib.hid hsmL
      obtain ⟨i0, hi0, hz0, hz1, hz2⟩ := info_parts info_nat
      obtain ⟨C, hC⟩ : ∃ C, lcmAll L = C := ⟨_, rfl⟩
      rw [hC] at HC HSL
      have HCC := Lib.hid hC
      clear hfin hsmL HNV hC HSM
      go_wp2_with ((with_reducible refine wpList_make_full _ rfl (.tmp 23) (.tmp 23) 60 rfl wr.heap.size 23 i0 (.slice none 0 0) 1 Tryd.underlying60 hi0 hz0 hz1 .i64 .i64 _ _ k rfl rfl rfl rfl (by rw [hz2]; omega) (by unfold maxLen; omega) (by simp) ?_); intro w3 hown3 hg3)
      have hgp : wr.heap.size < w3.heap.size := by
        rcases hown3.2 with ⟨h, _⟩ | ⟨g', cap, c', hv, _, hh, _⟩
        · injection h with h; cases h
        · injection hv with hv
          injection hv with hv
          injection hv with hv
          subst hv
          exact (Array.getElem?_eq_some_iff.1 hh).1
      have hpt0 : Parts w3 w.heap.size wr.heap.size 0 k (partOf L) _ := parts_made hown3
      have hb3 : Below wr.heap.size wr w3 := (Below.refl _ _).grown hg3 (Nat.le_refl _) (by intro r e; cases e)
      have hB3 := hB.trans (hb3.mono hBs)
      have HC3 := Lib.hid (HC.out.below hb3)
      have HPT0 := Lib.hid hpt0
      obtain ⟨gp, hgpe⟩ : ∃ gp, wr.heap.size = gp := ⟨_, rfl⟩
      rw [hgpe] at hgp HPT0 hBs ⊢
      clear hpt0 hb3 hown3 hg3 hz0 hz1 hz2 hi0 HC hgpe hB
      go_loopw [27] (fun iv wx => ∃ (j : Nat) (ps : List Value), iv = .int .i64 (j : Int) ∧ j ≤ k ∧ Parts wx w.heap.size gp j k (partOf L) ps ∧ Nv wx w.heap.size (.slice A1 n1 c1) C ∧ Below w.heap.size w wx ∧ gp < wx.heap.size) (fun iv _ => k - (intOf iv).toNat)
      case atStart => exact ⟨0, _, rfl, by omega, HPT0.out, HC3.out, hB3, hgp⟩
      case round =>
        clear HPT0 HC3 hB3 hgp
        obtain ⟨j, ps, rfl, hj, hpt, hc, hBx, hgx⟩ := hrel
        have HPT := Lib.hid hpt
        have HCX := Lib.hid hc
        clear hpt hc
        by_cases hjk : j < k
        · obtain ⟨q, hq⟩ : ∃ q, L[j]? = some q := ⟨_, List.getElem?_eq_getElem (by have := HL.out; omega)⟩
          obtain ⟨b, o, A3, n3, c3, A4, n4, c4, hA, hbl, d0, d1, hq1, hq2⟩ := (HR.out.below hBx) j q hq
          subst hA
          have HQ := Lib.hid hq
          have hk0 : (0 : Int) ≤ (j : Int) := by omega
          have hk1 : (j : Int) < (k : Int) := by omega
          have hba := b1 wr (.cells #[.slice A3 n3 c3, .slice A4 n4 c4] 27)
          have g0 : (wr.alloc (.cells #[.slice A3 n3 c3, .slice A4 n4 c4] 27)).cell? ⟨wr.heap.size, 0, none⟩ = some (.slice A3 n3 c3) := cn0 _ _ _ _
          have g1 : (wr.alloc (.cells #[.slice A3 n3 c3, .slice A4 n4 c4] 27)).cell? ⟨wr.heap.size, 1, none⟩ = some (.slice A4 n4 c4) := cn1 _ _ _ _
          have hs9 : (wr.alloc (.cells #[.slice A3 n3 c3, .slice A4 n4 c4] 27)).heap.size = wr.heap.size + 1 := by simp
          have hB9 := hBx.trans (hba.mono hBx.size)
          have H1 := Lib.hid ((hq1.below hba).more (M' := F) (by omega))
          have H2 := Lib.hid ((hq2.below hba).more (M' := F) (by omega))
          have H3 := Lib.hid (((HCX.out.below hba).nr HSL.out).more (M' := F) (by omega))
          have H3' := Lib.hid (HCX.out.below hba)
          have HPT9 := Lib.hid (HPT.out.below hba)
          clear hq hq1 hq2
          go_upto_region 11 with (fail)
          obtain ⟨g9, hg9⟩ : ∃ g9, wr.heap.size = g9 := ⟨_, rfl⟩
          obtain ⟨W9, hW9⟩ : ∃ W9, wr.alloc (.cells #[.slice A3 n3 c3, .slice A4 n4 c4] 27) = W9 := ⟨_, rfl⟩
          rw [hW9] at g0 g1 hs9 hB9 H1 H2 H3 H3' HPT9
          rw [hg9] at g0 g1 hs9 hgx
          rw [hg9, hW9]
          have hsg : g9 < W9.heap.size := by omega
          have hsg' : gp < W9.heap.size := by omega
          have hq39 : q.2 / q.2 = q.2 / q.2 := rfl
          clear hW9 hg9 hba d0 d1 hs9 HPT HCX hq39
          have hqb : C / q.2 < 4294967296 ^ F := Nat.lt_of_le_of_lt (Nat.div_le_self _ _) H3.out.lt
          have HQB := Lib.hid hqb
          clear hqb
          go_region_held3 (fun u => u.cell? ⟨g9, 0, none⟩ = some (.slice A3 n3 c3) ∧ u.cell? ⟨g9, 1, none⟩ = some (.slice A4 n4 c4))
            (first | exact ⟨g0, g1⟩ | assumption | exact cells2 (b1 _ _) (by assumption) | exact cells2_put (by omega) (by assumption))
            (first
              | (go_at_call 60; (with_reducible refine (quot_r _ (H3.out.below (Below.refl _ _).drew) (H2.out.below (Below.refl _ _).drew) (by omega) (by omega)).mono ?_); rintro e x1 ⟨v1, rfl, hn1, hb1⟩; obtain ⟨D1, i7, e7, rfl⟩ := hn1.shape; have P1 := Lib.hid (hn1.nr HQB.out); clear hn1; have hS1 := cells2 hb1 ⟨g0, g1⟩; have BX1 := drew_then hb1)
              | (go_at_call 51; (with_reducible refine (mul2_r (v1 := .slice A3 n3 c3) (v2 := .slice D1 i7 e7) (a := q.1) (b := C / q.2) (M := F) _ (cn0 _ _ _ _) (cn1 _ _ _ _) ((H1.out.below BX1).below (b1 _ _)) (P1.out.below (b1 _ _)) (by omega)).mono ?_); rintro e x2 ⟨v2, rfl, hn2, hb2⟩; obtain ⟨D2, i8, e8, rfl⟩ := hn2.shape; have P2 := Lib.hid (hn2.more (Nat.le_trans hB9.size (Nat.le_trans BX1.size (b1 x1 _).size))); clear hn2; have BX2 := BX1.trans (((b1 x1 _).trans (hb2.mono (b1 x1 _).size)).mono BX1.size); have hS2 := cells2 BX2 ⟨g0, g1⟩; have HPX := Lib.hid (HPT9.out.below BX2); have hpc := HPX.out.cell hjk; obtain ⟨Z1, z2, z3, hpc⟩ := hpc; have hpf := HPX.out.2.2.2.frozen j))
          all_goals
            go_wp2_with fail
            have hval : partOf L j = q.1 * (C / q.2) := by rw [partOf_eq HQ.out, HCC.out]
            have hBw := hB9.trans (BX2.mono hB9.size)
            refine ⟨⟨j + 1, _, by go_num, by omega, HPX.out.put hjk (by rw [hval]; exact P2.out), (H3'.out.below BX2).setS hpc, hBw.setCell hBs _, ?_⟩, by simp [intOf]; omega⟩
            rw [setCell_size]
            exact Nat.lt_of_lt_of_le hsg' BX2.size
        · obtain rfl : j = k := by omega
          go_wp2_with fail
          go_ret2
          exact ⟨_, _, _, gp, ps, rfl, by rw [HCC.out]; exact HCX.out, HPT.out, hBs, hBx⟩
end Go.Proofs.YtemalomcdiahiaaDoor
