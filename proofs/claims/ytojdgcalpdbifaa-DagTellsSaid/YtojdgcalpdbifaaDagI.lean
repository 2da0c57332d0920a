/-
  Arrows: package dag's Comes, Depth.
-/
import Derived.Test.YtojdgcalpdbifaaDagH
namespace Go.Proofs.Ytojdgcalpdbifaa
open Go.RowKit
set_option maxRecDepth 100000

/-- Does a come to b? -/
noncomputable def cms13 (N : Nat) (l : List (Int × Int)) (a b : Int) : Bool := decide (0 ≤ a ∧ a < (N : Int)) && (decide (0 ≤ b ∧ b < (N : Int)) && wayb (cut13 N l) a.toNat b.toNat)

set_option maxHeartbeats 4000000 in
theorem dcomes13_any (n : Int) (N : Nat) (hN : nn13 n = N) (Ad : Option Addr) (l : List (Int × Int)) (m c : Nat) (a b : Int) (w : World) (hl : l.length = m) (hr : Aq w w.heap.size Ad l) (hm : m ≤ 1000000) :
    Calls Try.prog 14 #[.int .i64 n, .slice Ad m c, .int .i64 a, .int .i64 b] w fun e w' => e = .returned (.bool (cms13 N l a b)) ∧ Below w.heap.size w w' := by
  have HLA := Lib.hid (laid13_any n N hN Ad l m c w hl hr hm)
  obtain ⟨z, hz⟩ : ∃ z, cms13 N l a b = z := ⟨_, rfl⟩
  rw [hz]
  unfold cms13 at hz
  have HZ := Lib.hid hz
  clear hl hr hN hz
  have HFA : ∀ (d : Bool) (E I : Nat) (w1 : World), decide (0 ≤ a ∧ a < (N : Int)) = d → Calls Try.prog 20 #[gv13 E I N, .int .i64 a] (w1.alloc (.cells #[.slice (some ⟨E, 0, none⟩) N N, .slice (some ⟨I, 0, none⟩) N N] 43)) fun e w' => e = .returned (.bool d) ∧ Below (w1.alloc (.cells #[.slice (some ⟨E, 0, none⟩) N N, .slice (some ⟨I, 0, none⟩) N N] 43)).heap.size (w1.alloc (.cells #[.slice (some ⟨E, 0, none⟩) N N, .slice (some ⟨I, 0, none⟩) N N] 43)) w' := fun d E I w1 hd => has13_any E I N a _ d hd.symm
  have HFA := Lib.hid HFA
  by_cases hin : 0 ≤ a ∧ a < (N : Int)
  · obtain ⟨p, rfl⟩ : ∃ p : Nat, a = (p : Int) := ⟨a.toNat, by omega⟩
    have hpN : p < N := by omega
    have HDA := Lib.hid (decide_eq_true hin)
    by_cases hinb : 0 ≤ b ∧ b < (N : Int)
    · obtain ⟨q, rfl⟩ : ∃ q : Nat, b = (q : Int) := ⟨b.toNat, by omega⟩
      have hqN : q < N := by omega
      have HDB := Lib.hid (decide_eq_true hinb)
      have HZ2 : Hid (wayb (cut13 N l) p q = z) := Lib.hid (by rw [← HZ.out, HDA.out, HDB.out]; rfl)
      have q0 : (0 : Int) ≤ (q : Int) := by omega
      have q1 : (q : Int) < (N : Int) := by omega
      clear hin hinb
      go_enter Try.func14, Try.ntmps14
      go_wp2_with fail
      refine HLA.out.mono ?_
      rintro e w1 ⟨E, I, rfl, hg, hE, hI, hb⟩
      have hb1 := b1' w1 (.cells #[.slice (some ⟨E, 0, none⟩) N N, .slice (some ⟨I, 0, none⟩) N N] 43)
      have hbx := Blk.new w1 43 #[.slice (some ⟨E, 0, none⟩) N N, .slice (some ⟨I, 0, none⟩) N N]
      have c0 := hbx.cell 0
      have c1 := hbx.cell 1
      have HH := Lib.hid (HFA.out true E I w1 HDA.out)
      have HG2 := Lib.hid (hg.up hb1)
      have HB2 := Lib.hid (hb.trans (hb1.mono hb.size))
      have HBX := Lib.hid hbx
      unfold gv13 at HH
      unfold gv13
      clear HLA hg hE hI hb hb1 hbx
      go_wp2_with fail
      refine HH.out.mono ?_
      rintro e w3 ⟨rfl, hb3⟩
      have hbx3 := HBX.out.below hb3 HBX.out.lt
      have c0 := hbx3.cell 0
      have c1 := hbx3.cell 1
      have HH3 := Lib.hid (has13_any E I N (q : Int) w3 _ HDB.out.symm)
      have HG3 := Lib.hid (HG2.out.up hb3)
      have HB3 := Lib.hid (HB2.out.trans (hb3.mono HB2.out.size))
      have HBX3 := Lib.hid hbx3
      unfold gv13 at HH3
      clear HH HG2 HBX hb3 hbx3
      go_wp2_with fail
      refine HH3.out.mono ?_
      rintro e w4 ⟨rfl, hb4⟩
      have hbx4 := HBX3.out.below hb4 HBX3.out.lt
      have c0 := hbx4.cell 0
      have c1 := hbx4.cell 1
      have HRE := Lib.hid (reached13_any w4 (HG3.out.up hb4) hpN)
      have HB4 := Lib.hid (HB3.out.trans (hb4.mono HB3.out.size))
      unfold gv13 at HRE
      clear HH3 HG3 HBX3 hb4 hbx4
      go_wp2_with fail
      refine HRE.out.mono ?_
      rintro e w5 ⟨g, rfl, hrv, hb5⟩
      obtain ⟨a, o, hA, _, ca⟩ := bls_at hrv hqN
      injection hA with hA
      injection hA with hA1 hA2
      subst hA1 hA2
      rw [Nat.zero_add, HZ2.out] at ca
      have HB5 := Lib.hid (HB4.out.trans (hb5.mono HB4.out.size))
      clear HRE hrv hb5 c0 c1
      go_wp2_with fail
      go_ret
      exact ⟨rfl, HB5.out⟩
    · have HDB := Lib.hid (decide_eq_false hinb)
      obtain rfl : z = false := by rw [← HZ.out, HDA.out, HDB.out]; rfl
      clear hin hinb
      go_enter Try.func14, Try.ntmps14
      go_wp2_with fail
      refine HLA.out.mono ?_
      rintro e w1 ⟨E, I, rfl, hg, hE, hI, hb⟩
      have hb1 := b1' w1 (.cells #[.slice (some ⟨E, 0, none⟩) N N, .slice (some ⟨I, 0, none⟩) N N] 43)
      have hbx := Blk.new w1 43 #[.slice (some ⟨E, 0, none⟩) N N, .slice (some ⟨I, 0, none⟩) N N]
      have c0 := hbx.cell 0
      have c1 := hbx.cell 1
      have HH := Lib.hid (HFA.out true E I w1 HDA.out)
      have HB2 := Lib.hid (hb.trans (hb1.mono hb.size))
      have HBX := Lib.hid hbx
      unfold gv13 at HH
      unfold gv13
      clear HLA hg hE hI hb hb1 hbx
      go_wp2_with fail
      refine HH.out.mono ?_
      rintro e w3 ⟨rfl, hb3⟩
      have hbx3 := HBX.out.below hb3 HBX.out.lt
      have c0 := hbx3.cell 0
      have c1 := hbx3.cell 1
      have HH3 := Lib.hid (has13_any E I N b w3 _ HDB.out.symm)
      have HB3 := Lib.hid (HB2.out.trans (hb3.mono HB2.out.size))
      unfold gv13 at HH3
      clear HH HBX hb3 hbx3
      go_wp2_with fail
      refine HH3.out.mono ?_
      rintro e w4 ⟨rfl, hb4⟩
      have HB4 := Lib.hid (HB3.out.trans (hb4.mono HB3.out.size))
      clear HH3 hb4 c0 c1
      go_wp2_with fail
      go_ret
      exact ⟨rfl, HB4.out⟩
  · have HDA := Lib.hid (decide_eq_false hin)
    obtain rfl : z = false := by rw [← HZ.out, HDA.out]; rfl
    clear hin
    go_enter Try.func14, Try.ntmps14
    go_wp2_with fail
    refine HLA.out.mono ?_
    rintro e w1 ⟨E, I, rfl, hg, hE, hI, hb⟩
    have hb1 := b1' w1 (.cells #[.slice (some ⟨E, 0, none⟩) N N, .slice (some ⟨I, 0, none⟩) N N] 43)
    have hbx := Blk.new w1 43 #[.slice (some ⟨E, 0, none⟩) N N, .slice (some ⟨I, 0, none⟩) N N]
    have c0 := hbx.cell 0
    have c1 := hbx.cell 1
    have HH := Lib.hid (HFA.out false E I w1 HDA.out)
    have HB2 := Lib.hid (hb.trans (hb1.mono hb.size))
    unfold gv13 at HH
    unfold gv13
    clear HLA hg hE hI hb hb1 hbx
    go_wp2_with fail
    refine HH.out.mono ?_
    rintro e w3 ⟨rfl, hb3⟩
    have HB3 := Lib.hid (HB2.out.trans (hb3.mono HB2.out.size))
    clear HH hb3 c0 c1
    go_wp2_with fail
    go_ret
    exact ⟨rfl, HB3.out⟩

/-- How far Depth has come: those of the first k of os have told those that they lead to. -/
structure De13 (A : List (Nat × Nat)) (D : Nat → Nat) (os : List Nat) (k : Nat) (O : Nat → Nat) : Prop where
  le : ∀ j, O j ≤ D j
  low : ∀ f t, (f, t) ∈ A → f ∈ os.take k → D f + 1 ≤ O t
theorem De13.at_ {A : List (Nat × Nat)} {D O : Nat → Nat} {n k : Nat} {os : List Nat} (h : De13 A D os k O) (hD : Dep13 A D) (ho : Told13 A n os) (hk : k < os.length) : O (nth os k) = D (nth os k) := by
  have h1 := ho.take (k + 1)
  rw [List.take_add_one, List.getElem?_eq_getElem hk, ← nth_in hk] at h1
  obtain ⟨_, h2, _⟩ := h1.snoc
  have h3 := h.le (nth os k)
  rcases hD.is (nth os k) with h4 | ⟨f, h4, h5⟩
  · omega
  · have := h.low f _ h4 (h2.2.2 f h4)
    omega
theorem De13.put {A : List (Nat × Nat)} {D O : Nat → Nat} {k t x : Nat} {os : List Nat} (h : De13 A D os k O) (h1 : O t ≤ x) (h2 : x ≤ D t) : De13 A D os k (upd O t x) := by
  refine ⟨fun j => ?_, fun f y hfy hf => ?_⟩
  · by_cases e : j = t
    · subst e
      rw [upd_at]
      exact h2
    · rw [upd_far _ _ e]
      exact h.le j
  · have h3 := h.low f y hfy hf
    by_cases e : y = t
    · subst e
      rw [upd_at]
      omega
    · rw [upd_far _ _ e]
      exact h3
theorem De13.next {A : List (Nat × Nat)} {D O : Nat → Nat} {k : Nat} {os : List Nat} (h : De13 A D os k O) (hk : k < os.length) (hi : ∀ y, (nth os k, y) ∈ A → D (nth os k) + 1 ≤ O y) : De13 A D os (k + 1) O := by
  refine ⟨h.le, fun f t hft hf => ?_⟩
  rw [List.take_add_one, List.getElem?_eq_getElem hk, ← nth_in hk, List.mem_append] at hf
  rcases hf with hf | hf
  · exact h.low f t hft hf
  · obtain rfl : f = nth os k := by simpa using hf
    exact hi t hft
theorem De13.end_ {A : List (Nat × Nat)} {D O : Nat → Nat} {n : Nat} {os : List Nat} (h : De13 A D os os.length O) (hA : In13 A n) (hD : Dep13 A D) (ho : Told13 A n os) (hl : os.length = n) : ∀ j, O j = D j := by
  have h1 := hD.low (O := O) (fun f t hft => by
    have h2 := h.low f t hft (by rw [List.take_length]; exact full13 n os ho.nodup ho.lt hl f (hA _ hft).1)
    have h3 := h.le f
    omega)
  intro j
  have h2 := h.le j
  have h3 := h1 j
  omega

/-- What Depth says. -/
def RetD13 (w : World) (N : Nat) (os : List Nat) (D : Nat → Nat) (e : Ending) (w' : World) : Prop :=
  ∃ v, e = .returned (.tuple #[v, .bool (decide (os.length = N))]) ∧ (os.length = N → ∃ A c, v = .slice A N c ∧ Rd w' w'.heap.size A (lst13 D N)) ∧ (¬ os.length = N → v = .slice none 0 0) ∧ Below w.heap.size w w'

set_option maxHeartbeats 8000000 in
theorem ddepth13_any (n : Int) (N : Nat) (hN : nn13 n = N) (Ad : Option Addr) (l : List (Int × Int)) (m c : Nat) (os : List Nat) (D : Nat → Nat) (w : World) (hl : l.length = m) (hr : Aq w w.heap.size Ad l) (hm : m ≤ 1000000) (hd : Done13 (cut13 N l) N os)
    (hD : os.length = N → Dep13 (cut13 N l) D ∧ ∀ j, D j ≤ N) :
    Calls Try.prog 10 #[.int .i64 n, .slice Ad m c] w (RetD13 w N os D) := by
  have HP : Hid (RetD13 w N os D = fun e w' => ∃ v, e = .returned (.tuple #[v, .bool (decide (os.length = N))]) ∧ (os.length = N → ∃ A c, v = .slice A N c ∧ Rd w' w'.heap.size A (lst13 D N)) ∧ (¬ os.length = N → v = .slice none 0 0) ∧ Below w.heap.size w w') := Lib.hid rfl
  have HLA := Lib.hid (laid13_any n N hN Ad l m c w hl hr hm)
  have hN4 := nn13_le n
  rw [hN] at hN4
  have HD := Lib.hid hd
  have HDD := Lib.hid hD
  clear hl hr hd hN hD
  go_enter Try.func10, Try.ntmps10
  go_wp2_with fail
  refine HLA.out.mono ?_
  rintro e w1 ⟨E, I, rfl, hg, hE, hI, hb⟩
  have hb1 := b1' w1 (.cells #[.slice (some ⟨E, 0, none⟩) N N, .slice (some ⟨I, 0, none⟩) N N] 43)
  have hbx := Blk.new w1 43 #[.slice (some ⟨E, 0, none⟩) N N, .slice (some ⟨I, 0, none⟩) N N]
  have c0 := hbx.cell 0
  have c1 := hbx.cell 1
  have hg2 := hg.up hb1
  have HO := Lib.hid (order13_any (w1.alloc (.cells #[.slice (some ⟨E, 0, none⟩) N N, .slice (some ⟨I, 0, none⟩) N N] 43)) hg2 HD.out)
  have HG2 := Lib.hid hg2
  have HB2 := Lib.hid (hb.trans (hb1.mono hb.size))
  have HBX := Lib.hid hbx
  unfold gv13 at HO
  unfold gv13
  clear HLA hg hE hI hb hb1 hbx hg2
  go_wp2_with fail
  refine HO.out.mono ?_
  rintro e w3 ⟨v, rfl, h1, h2, hb3⟩
  have hbx3 := HBX.out.below hb3 HBX.out.lt
  have HG3 := Lib.hid (HG2.out.up hb3)
  have HB3 := Lib.hid (HB2.out.trans (hb3.mono HB2.out.size))
  by_cases hf : os.length = N
  · obtain ⟨A3, c3, hv, hown⟩ := h1 hf
    rw [hf] at hv hown
    subst hv
    rw [decide_eq_true hf]
    obtain ⟨hDep, hDN⟩ := HDD.out hf
    have hmk := make_ints13 N (by omega)
    have HRD := Lib.hid (Rd.of_own hown)
    have c0 := (hbx3.alloc (.cells (madeCells #[.int .i64 0] N) 3)).cell 0
    have HBX3 := Lib.hid hbx3
    have HOUT : Hid (Ib13 (w3.alloc (.cells (madeCells #[.int .i64 0] N) 3)) w3.heap.size N (fun _ => 0)) := Lib.hid (by
      obtain ⟨cs, k1, k2, k3⟩ := made13 w3 3 N (.int .i64 0)
      exact ⟨cs, k1, by omega, k3⟩)
    have HB4 := Lib.hid (b1' w3 (.cells (madeCells #[.int .i64 0] N) 3))
    have HDP := Lib.hid hDep
    have HDN := Lib.hid hDN
    have HF := Lib.hid hf
    have HDE0 : Hid (De13 (cut13 N l) D os 0 (fun _ => 0)) := Lib.hid ⟨fun _ => Nat.zero_le _, fun f t _ h => by simp at h⟩
    clear h1 h2 hbx3 hb3 hown hDep hDN hf HO HG2 HBX HDD
    go_wp2_with fail
    go_loopw [29] (fun iv wr => ∃ (k : Nat) (O : Nat → Nat), iv = .int .i64 (k : Int) ∧ k ≤ N ∧ Hid (Ib13 wr w3.heap.size N O) ∧ Hid (De13 (cut13 N l) D os k O) ∧ Hid (Below w3.heap.size w3 wr)) (fun iv _ => N - (intOf iv).toNat)
    case atStart => exact ⟨0, _, rfl, by omega, HOUT, HDE0, HB4⟩
    case round =>
      clear HOUT HDE0 HB4
      obtain ⟨k, O, rfl, hk, HI, HE, HB⟩ := hrel
      by_cases hkN : k < N
      · have hkl : k < os.length := by have := HF.out; omega
        obtain ⟨a, o, hA, _, ca⟩ := (HRD.out.below HB.out (Nat.le_refl _)).at_ hkl
        subst hA
        have hin : nth os k < N := by rw [nth_in hkl]; exact HD.out.1.lt _ (List.getElem_mem hkl)
        have hat := HE.out.at_ HDP.out HD.out.1 hkl
        obtain ⟨i, hi⟩ : ∃ i, nth os k = i := ⟨_, rfl⟩
        rw [hi] at ca hin hat
        obtain ⟨Ak, ck, hrow, hrd⟩ := HG3.out.row hin
        obtain ⟨nf, hnf⟩ : ∃ x, (outs (cut13 N l) i).length = x := ⟨_, rfl⟩
        have hnfb := outs_len (cut13 N l) i
        have hmany := HG3.out.many
        rw [hnf] at hrow hnfb
        have hr4 := (HB.out.cell (p := ⟨E, i, none⟩) HG3.out.eb).trans hrow
        have hbr := HBX3.out.below HB.out HBX3.out.lt
        have b0 := hbr.cell 0
        have HI0 := Lib.hid hi
        have HAT := Lib.hid hat
        have HRW := Lib.hid hrd
        have HNF := Lib.hid hnf
        have k0 : (0 : Int) ≤ (k : Int) := by omega
        have k1 : (k : Int) < (N : Int) := by omega
        have fi0 : (0 : Int) ≤ (i : Int) := by omega
        have fi1 : (i : Int) < (N : Int) := by omega
        clear hi hat hrow hrd hnf hbr
        go_wp2_with fail
        go_loopw [39] (fun iv wi => ∃ (p : Nat) (O2 : Nat → Nat), iv = .int .i64 (p : Int) ∧ p ≤ nf ∧ Hid (Ib13 wi w3.heap.size N O2) ∧ Hid (De13 (cut13 N l) D os k O2) ∧ Hid (∀ q, q < p → D i + 1 ≤ O2 (nth (outs (cut13 N l) i) q)) ∧ Hid (Below w3.heap.size w3 wi)) (fun iv _ => nf - (intOf iv).toNat)
        case atStart => exact ⟨0, O, rfl, by omega, HI, HE, Lib.hid (fun q hq => by omega), HB⟩
        case round =>
          clear HI HE HB ca hr4 b0
          obtain ⟨p, O2, rfl, hp, HI, HE, HQ, HB⟩ := hrel
          by_cases hpn : p < nf
          · have hpo : p < (outs (cut13 N l) i).length := by have := HNF.out; omega
            obtain ⟨b, o2, hA2, _, ca⟩ := (HRW.out.below HB.out (Nat.le_refl _)).at_ hpo
            subst hA2
            obtain ⟨hy1, hy2⟩ := outs_nth HG3.out.part hpo
            obtain ⟨y, hy⟩ : ∃ y, nth (outs (cut13 N l) i) p = y := ⟨_, rfl⟩
            rw [hy] at ca hy1 hy2
            have hDi : O2 i = D i := by rw [← HI0.out]; exact HE.out.at_ HDP.out HD.out.1 hkl
            have hup := HDP.out.up i y hy1
            obtain ⟨ci, _⟩ := HI.out.cells hin
            obtain ⟨cy, fy⟩ := HI.out.cells hy2
            rw [hDi] at ci
            obtain ⟨d, hdd⟩ : ∃ d, D i = d := ⟨_, rfl⟩
            obtain ⟨x, hx⟩ : ∃ x, O2 y = x := ⟨_, rfl⟩
            have hdN : d ≤ N := by rw [← hdd]; exact HDN.out i
            have hxD := HE.out.le y
            rw [hdd] at ci hup
            rw [hx] at cy hxD
            obtain ⟨z, hz⟩ : ∃ z, max x (d + 1) = z := ⟨_, rfl⟩
            have hmx : max (x : Int) ((d : Int) + 1) = (z : Int) := by omega
            have hmx2 : max (x : Int) ((d + 1 : Nat) : Int) = (z : Int) := by omega
            have hwd : IntKind.i64.wrap ((d : Int) + 1) = (d : Int) + 1 := by rw [IntKind.wrap_i64]; omega
            have p0 : (0 : Int) ≤ (p : Int) := by omega
            have p1 : (p : Int) < (nf : Int) := by omega
            have y0 : (0 : Int) ≤ (y : Int) := by omega
            have y1 : (y : Int) < (N : Int) := by omega
            have HI2 := Lib.hid (Ib13.put (HI.out.below (Below.refl _ _).drew HI.out.lt) hy2 z)
            have HE2 : Hid (De13 (cut13 N l) D os k (upd O2 y z)) := Lib.hid (HE.out.put (by omega) (by omega))
            have HB2 := Lib.hid (HB.out.drew.setCell (p := ⟨w3.heap.size, y, none⟩) (Nat.le_refl _) (.int .i64 (z : Int)))
            have HQ2 : Hid (∀ q, q < p + 1 → D i + 1 ≤ upd O2 y z (nth (outs (cut13 N l) i) q)) := Lib.hid (fun q hq => by
              by_cases e : nth (outs (cut13 N l) i) q = y
              · rw [e, upd_at]
                omega
              · rw [upd_far _ _ e]
                rcases (show q < p ∨ q = p by omega) with h | rfl
                · exact HQ.out q h
                · exact absurd hy e)
            clear hy hy1 hDi hup hdd hx hxD hz
            go_wp2_with fail
            go_region
            go_wp2_with fail
            go_roundw
            case rel => exact ⟨p + 1, _, by go_num, by omega, HI2, HE2, HQ2, HB2⟩
            case measure => simp [intOf]; omega
          · obtain rfl : p = nf := by omega
            have HE3 : Hid (De13 (cut13 N l) D os (k + 1) O2) := Lib.hid (HE.out.next hkl (fun y hy => by
              rw [HI0.out] at hy ⊢
              obtain ⟨q, hq, he⟩ := List.getElem_of_mem (outs_mem.2 hy)
              have h1 := HQ.out q (by have := HNF.out; omega)
              rw [nth_in hq, he] at h1
              exact h1))
            have p1 : ¬ (p : Int) < (p : Int) := by omega
            go_wp2_with fail
            go_roundw
            case rel => exact ⟨k + 1, O2, by go_num, by omega, HI, HE3, HB⟩
            case measure => simp [intOf]; omega
      · obtain rfl : k = N := by omega
        have hend : ∀ j, O j = D j := by
          have h2 := HF.out
          have h1 : De13 (cut13 k l) D os os.length O := by
            rw [h2]
            exact HE.out
          exact h1.end_ HG3.out.part HDP.out HD.out.1 h2
        have HR : Hid (Rd wr wr.heap.size (some ⟨w3.heap.size, 0, none⟩) (lst13 D k)) := Lib.hid (HI.out.rd2 (lst13_len _ _) (fun j hj => by rw [lst13_nth hj, hend j]))
        have k1 : ¬ (k : Int) < (k : Int) := by omega
        clear hend
        go_wp2_with fail
        rw [HP.out]
        go_ret2
        refine ⟨.slice (some ⟨w3.heap.size, 0, none⟩) k k, by rw [decide_eq_true HF.out]; rfl, fun _ => ⟨_, k, rfl, HR.out⟩, fun h => absurd HF.out h, HB3.out.trans (HB.out.mono HB3.out.size)⟩
  · have HF := Lib.hid hf
    rw [decide_eq_false hf]
    clear h1 h2 hbx3 hb3 hf HO HG2 HBX HDD
    go_wp2_with fail
    rw [HP.out]
    go_ret2
    exact ⟨.slice none 0 0, by rw [decide_eq_false HF.out]; rfl, fun h => absurd h HF.out, fun _ => rfl, HB3.out⟩
end Go.Proofs.Ytojdgcalpdbifaa
