/-
  Arrows: the document's Depth.
-/
import Derived.Test.YtojdgcalpdbifaaDagR
namespace Go.Proofs.Ytojdgcalpdbifaa
open Go.RowKit
set_option maxRecDepth 100000

/-- The first p arrows are kept: whom they lead to lies deeper. -/
def Cd13 (l : List (Int × Int)) (n : Nat) (O : Nat → Nat) (p : Nat) : Prop :=
  ∀ q, q < p → ∀ x y : Nat, arr l q = ((x : Int), (y : Int)) → x < n → y < n → O x + 1 ≤ O y
theorem Cd13.next {l : List (Int × Int)} {n p : Nat} {O : Nat → Nat} (h : Cd13 l n O p) (hp : ∀ x y : Nat, arr l p = ((x : Int), (y : Int)) → x < n → y < n → O x + 1 ≤ O y) : Cd13 l n O (p + 1) := by
  intro q hq
  rcases (show q < p ∨ q = p by omega) with h1 | rfl
  · exact h q h1
  · exact hp
theorem Cd13.end_ {l : List (Int × Int)} {n : Nat} {D O : Nat → Nat} (h : Cd13 l n O l.length) (hD : Dep13 (cut13 n l) D) (hle : ∀ j, O j ≤ D j) : ∀ j, O j = D j := by
  have h1 := hD.low (O := O) (fun f t hft => by
    obtain ⟨q, hq, he⟩ := arr_mem hft
    obtain ⟨h2, h3⟩ := cut13_lt hft
    exact h q hq f t he h2 h3)
  intro j
  have h2 := hle j
  have h3 := h1 j
  omega
theorem sm13_less {D O : Nat → Nat} {n t x : Nat} (ht : t < n) (h1 : O t < x) (h2 : x ≤ D t) : sm (fun j => D j - upd O t x j) n + 1 ≤ sm (fun j => D j - O j) n := by
  have h := sm_one (f := fun j => D j - upd O t x j) (g := fun j => D j - O j) ht (fun k hk => by
    show D k - upd O t x k = D k - O k
    rw [upd_far _ _ hk])
  simp only [upd_at] at h
  omega

set_option maxHeartbeats 8000000 in
theorem rdepth13_any (n : Nat) (Ad : Option Addr) (l : List (Int × Int)) (m c : Nat) (D : Nat → Nat) (w : World) (hl : l.length = m) (hr : Aq w w.heap.size Ad l) (hm : m ≤ 1000000) (hn : n ≤ 100000) (hD : Dep13 (cut13 n l) D) (hDN : ∀ j, D j ≤ n) :
    Calls Try.prog 17 #[.int .i64 (n : Int), .slice Ad m c] w fun e w' => ∃ g, e = .returned (.slice (some ⟨g, 0, none⟩) n n) ∧ Rd w' w'.heap.size (some ⟨g, 0, none⟩) (lst13 D n) ∧ Below w.heap.size w w' := by
  have HR := Lib.hid hr
  have HL := Lib.hid hl
  have HD := Lib.hid hD
  have HDN := Lib.hid hDN
  have hmk := make_ints13 n (by omega)
  have HM0 : Hid (Ib13 (w.alloc (.cells (madeCells #[.int .i64 0] n) 3)) w.heap.size n (fun _ => 0)) := Lib.hid (by
    obtain ⟨cs, k1, k2, k3⟩ := made13 w 3 n (.int .i64 0)
    exact ⟨cs, k1, by omega, k3⟩)
  have HB0 := Lib.hid (b1' w (.cells (madeCells #[.int .i64 0] n) 3))
  obtain ⟨M, hM⟩ : ∃ M, sm (fun j => D j - (fun _ => 0) j) n = M := ⟨_, rfl⟩
  have HMM := Lib.hid hM
  clear hr hl hD hDN hM
  go_enter Try.func17, Try.ntmps17
  go_wp2_with fail
  clear hmk
  go_loopg [6] (M + 2) (fun kx v wr => ∃ (K : Nat) (O : Nat → Nat) (ag : Bool), K = kx ∧ v = .bool ag ∧ Hid (sm (fun j => D j - O j) n + bn13 ag ≤ K) ∧ Hid (Ib13 wr w.heap.size n O) ∧ Hid (∀ j, O j ≤ D j) ∧ Hid (ag = false → Cd13 l n O m) ∧ Hid (Below w.heap.size w wr))
  case atStart => exact ⟨M + 2, _, true, rfl, rfl, Lib.hid (by rw [HMM.out]; simp only [bn13, if_true]; omega), HM0, Lib.hid (fun _ => Nat.zero_le _), Lib.hid (fun h => by cases h), HB0⟩
  case round =>
    clear HM0 HB0
    obtain ⟨K, O, ag, rfl, rfl, HME, HI, HLE, HC, HB⟩ := hrel
    cases ag with
    | false =>
      have hend : ∀ j, O j = D j := by
        have h1 := HC.out rfl
        have h2 := HL.out
        rw [← h2] at h1
        exact h1.end_ HD.out HLE.out
      have HRD := Lib.hid (HI.out.rd2 (lst13_len D n) (fun j hj => by rw [lst13_nth hj, hend j]))
      clear hend
      go_wp2_with fail
      go_ret
      exact ⟨w.heap.size, rfl, HRD.out, HB.out⟩
    | true =>
      have HME2 : Hid (sm (fun j => D j - O j) n + 1 ≤ K) := HME
      clear HME HC
      go_wp2_with fail
      go_loopw [6, 7] (fun v iv wi => ∃ (p : Nat) (O2 : Nat → Nat) (ag : Bool), v = .bool ag ∧ iv = .int .i64 (p : Int) ∧ p ≤ m ∧ Hid (sm (fun j => D j - O2 j) n + bn13 ag + 1 ≤ K) ∧ Hid (Ib13 wi w.heap.size n O2) ∧ Hid (∀ j, O2 j ≤ D j) ∧ Hid (ag = false → Cd13 l n O2 p) ∧ Hid (Below w.heap.size w wi)) (fun _ iv _ => m - (intOf iv).toNat)
      case atStart => exact ⟨0, O, false, rfl, rfl, by omega, Lib.hid (by simp only [bn13]; exact HME2.out), HI, HLE, Lib.hid (fun _ q hq => by omega), HB⟩
      case round =>
        clear HI HLE HB HME2
        obtain ⟨p, O2, ag, rfl, rfl, hp, HME, HI, HLE, HC, HB⟩ := hrel
        by_cases hpm : p < m
        · have hpl : p < l.length := by have := HL.out; omega
          obtain ⟨ba, o, hA, _, c0, c1⟩ := Aq.at_ (Rv.below HR.out HB.out (Nat.le_refl _)) hpl
          subst hA
          obtain ⟨fi, hfi⟩ : ∃ x, (arr l p).1 = x := ⟨_, rfl⟩
          obtain ⟨ti, hti⟩ : ∃ x, (arr l p).2 = x := ⟨_, rfl⟩
          rw [hfi] at c0
          rw [hti] at c1
          have HAR : Hid (arr l p = (fi, ti)) := Lib.hid (by rw [← hfi, ← hti])
          have hb1 := b1' wr (.cells #[.int .i64 fi, .int .i64 ti] 40)
          have hbk := Blk.new wr 40 #[.int .i64 fi, .int .i64 ti]
          have x0 := hbk.cell 0
          have x1 := hbk.cell 1
          have HI1 := Lib.hid (HI.out.below hb1 HI.out.lt)
          have HB1 := Lib.hid (HB.out.trans (hb1.mono HB.out.size))
          have i0 : (0 : Int) ≤ (p : Int) := by omega
          have i1 : (p : Int) < (m : Int) := by omega
          have hout : ¬ (0 ≤ fi ∧ fi < (n : Int) ∧ 0 ≤ ti ∧ ti < (n : Int)) → (ag = false → Cd13 l n O2 (p + 1)) := fun h0 h => (HC.out h).next (fun x y he hx hy => by
            rw [HAR.out] at he
            injection he with h1 h2
            exact absurd ⟨by omega, by omega, by omega, by omega⟩ h0)
          have HOUT := Lib.hid hout
          clear hfi hti hb1 hbk hout
          by_cases hf0 : 0 ≤ fi
          · by_cases hfn : fi < (n : Int)
            · by_cases ht0 : 0 ≤ ti
              · by_cases htn : ti < (n : Int)
                · obtain ⟨f, rfl⟩ : ∃ f : Nat, fi = (f : Int) := ⟨fi.toNat, by omega⟩
                  obtain ⟨t, rfl⟩ : ∃ t : Nat, ti = (t : Int) := ⟨ti.toNat, by omega⟩
                  have hfN : f < n := by omega
                  have htN : t < n := by omega
                  obtain ⟨mt, mtf⟩ := HI1.out.cells htN
                  obtain ⟨mf, _⟩ := HI1.out.cells hfN
                  obtain ⟨x, hx⟩ : ∃ x, O2 f = x := ⟨_, rfl⟩
                  obtain ⟨y, hy⟩ : ∃ y, O2 t = y := ⟨_, rfl⟩
                  rw [hx] at mf
                  rw [hy] at mt
                  have hup := HD.out.up f t (arr_in hpl HAR.out hfN htN)
                  have hxD := HLE.out f
                  have hDn := HDN.out f
                  by_cases hle : y ≤ x
                  · have hle2 : (y : Int) ≤ (x : Int) := by omega
                    have hwx : IntKind.i64.wrap ((x : Int) + 1) = ((x + 1 : Nat) : Int) := by rw [IntKind.wrap_i64]; omega
                    obtain ⟨z, hz⟩ : ∃ z, x + 1 = z := ⟨_, rfl⟩
                    rw [hz] at hwx
                    have HLS : Hid (sm (fun j => D j - upd O2 t z j) n + 1 ≤ sm (fun j => D j - O2 j) n) := Lib.hid (sm13_less htN (by omega) (by omega))
                    have HLE2 : Hid (∀ j, upd O2 t z j ≤ D j) := Lib.hid (fun j => by
                      by_cases e : j = t
                      · subst e
                        rw [upd_at]
                        omega
                      · rw [upd_far _ _ e]
                        exact HLE.out j)
                    have HI2 := Lib.hid (Ib13.put (HI1.out.below ((Below.refl _ _).drew.drew) HI1.out.lt) htN z)
                    have HB2 := Lib.hid (HB1.out.drew.drew.setCell (p := ⟨w.heap.size, t, none⟩) (Nat.le_refl _) (.int .i64 (z : Int)))
                    have HBN : Hid (0 ≤ bn13 ag) := Lib.hid (Nat.zero_le _)
                    clear hx hy hup hxD hDn hz
                    go_wp2_with fail
                    go_region
                    go_wp2_with fail
                    go_region
                    go_wp2_with fail
                    go_roundw
                    case rel => exact ⟨p + 1, _, true, rfl, by go_num, by omega, Lib.hid (by have h1 := HLS.out; have h2 := HME.out; simp only [bn13, if_true]; omega), HI2, HLE2, Lib.hid (fun h => by cases h), HB2⟩
                    case measure => simp [intOf]; omega
                  · have hle2 : ¬ (y : Int) ≤ (x : Int) := by omega
                    have HC1 : Hid (ag = false → Cd13 l n O2 (p + 1)) := Lib.hid (fun h => (HC.out h).next (fun x2 y2 he _ _ => by
                      rw [HAR.out] at he
                      injection he with h1 h2
                      obtain rfl : f = x2 := by omega
                      obtain rfl : t = y2 := by omega
                      omega))
                    have HB2 := Lib.hid HB1.out.drew
                    have HI2 := Lib.hid (HI1.out.below (Below.refl _ _).drew HI1.out.lt)
                    clear hx hy hup hxD hDn
                    go_wp2_with fail
                    go_region
                    go_wp2_with fail
                    go_roundw
                    case rel => exact ⟨p + 1, O2, ag, rfl, by go_num, by omega, HME, HI2, HLE, HC1, HB2⟩
                    case measure => simp [intOf]; omega
                · have HC1 := Lib.hid (HOUT.out (fun h => htn h.2.2.2))
                  have hdf : decide (ti < (n : Int)) = false := decide_eq_false htn
                  clear htn
                  have HB2 := Lib.hid HB1.out.drew
                  have HI2 := Lib.hid (HI1.out.below (Below.refl _ _).drew HI1.out.lt)
                  go_wp2_with fail
                  go_region
                  go_wp2_with fail
                  go_roundw
                  case rel => exact ⟨p + 1, O2, ag, rfl, by go_num, by omega, HME, HI2, HLE, HC1, HB2⟩
                  case measure => simp [intOf]; omega
              · have HC1 := Lib.hid (HOUT.out (fun h => ht0 h.2.2.1))
                have hdf : decide (0 ≤ ti) = false := decide_eq_false ht0
                clear ht0
                have HB2 := Lib.hid HB1.out.drew
                have HI2 := Lib.hid (HI1.out.below (Below.refl _ _).drew HI1.out.lt)
                go_wp2_with fail
                go_region
                go_wp2_with fail
                go_roundw
                case rel => exact ⟨p + 1, O2, ag, rfl, by go_num, by omega, HME, HI2, HLE, HC1, HB2⟩
                case measure => simp [intOf]; omega
            · have HC1 := Lib.hid (HOUT.out (fun h => hfn h.2.1))
              have hdf : decide (fi < (n : Int)) = false := decide_eq_false hfn
              clear hfn
              have HB2 := Lib.hid HB1.out.drew
              have HI2 := Lib.hid (HI1.out.below (Below.refl _ _).drew HI1.out.lt)
              go_wp2_with fail
              go_region
              go_wp2_with fail
              go_roundw
              case rel => exact ⟨p + 1, O2, ag, rfl, by go_num, by omega, HME, HI2, HLE, HC1, HB2⟩
              case measure => simp [intOf]; omega
          · have HC1 := Lib.hid (HOUT.out (fun h => hf0 h.1))
            have hdf : decide (0 ≤ fi) = false := decide_eq_false hf0
            clear hf0
            have HB2 := Lib.hid HB1.out.drew
            have HI2 := Lib.hid (HI1.out.below (Below.refl _ _).drew HI1.out.lt)
            go_wp2_with fail
            go_region
            go_wp2_with fail
            go_roundw
            case rel => exact ⟨p + 1, O2, ag, rfl, by go_num, by omega, HME, HI2, HLE, HC1, HB2⟩
            case measure => simp [intOf]; omega
        · obtain rfl : p = m := by omega
          have p1 : ¬ (p : Int) < (p : Int) := by omega
          obtain ⟨S, hS⟩ : ∃ S, sm (fun j => D j - O2 j) n + bn13 ag = S := ⟨_, rfl⟩
          have hSK : S + 1 ≤ K := by have h1 := HME.out; omega
          have HSS := Lib.hid hS
          clear hS
          go_wp2_with fail
          go_roundg (S)
          case measure => omega
          case rel => exact ⟨_, O2, ag, rfl, rfl, Lib.hid (Nat.le_of_eq HSS.out), HI, HLE, HC, HB⟩
end Go.Proofs.Ytojdgcalpdbifaa
