/-
  Arrows: the document's Reach and Ring.
-/
import Derived.Test.YtojdgcalpdbifaaDagI
namespace Go.Proofs.Ytojdgcalpdbifaa
open Go.RowKit
set_option maxRecDepth 100000

/-- The first p arrows are kept: whoever they lead to from a, or from one that is marked, is marked. -/
def Cl13 (l : List (Int × Int)) (n : Nat) (a : Int) (m : Nat → Bool) (p : Nat) : Prop :=
  ∀ q, q < p → ∀ x y : Nat, arr l q = ((x : Int), (y : Int)) → x < n → y < n → ((x : Int) = a ∨ m x = true) → m y = true
theorem Cl13.next {l : List (Int × Int)} {n p : Nat} {a : Int} {m : Nat → Bool} (h : Cl13 l n a m p) (hp : ∀ x y : Nat, arr l p = ((x : Int), (y : Int)) → x < n → y < n → ((x : Int) = a ∨ m x = true) → m y = true) : Cl13 l n a m (p + 1) := by
  intro q hq
  rcases (show q < p ∨ q = p by omega) with h1 | rfl
  · exact h q h1
  · exact hp
theorem arr_mem {l : List (Int × Int)} {n x y : Nat} (h : (x, y) ∈ cut13 n l) : ∃ q, q < l.length ∧ arr l q = ((x : Int), (y : Int)) := by
  obtain ⟨q, hq, he⟩ := List.getElem_of_mem (cut13_mem.1 h).1
  exact ⟨q, hq, by simp [arr, List.getElem?_eq_getElem hq, he]⟩
theorem arr_in {l : List (Int × Int)} {n x y q : Nat} (hq : q < l.length) (h : arr l q = ((x : Int), (y : Int))) (hx : x < n) (hy : y < n) : (x, y) ∈ cut13 n l := by
  refine cut13_mem.2 ⟨?_, hx, hy⟩
  rw [← h]
  have : arr l q = l[q] := by simp [arr, List.getElem?_eq_getElem hq]
  rw [this]
  exact List.getElem_mem hq
theorem Cl13.end_ {l : List (Int × Int)} {n b : Nat} {m : Nat → Bool} (h : Cl13 l n (b : Int) m l.length) (hs : ∀ x, m x = true → ∃ b' : Nat, (b : Int) = (b' : Int) ∧ Way (cut13 n l) b' x) : ∀ y, m y = wayb (cut13 n l) b y :=
  mark13 (fun x hx => by
    obtain ⟨b', h1, h2⟩ := hs x hx
    obtain rfl : b' = b := by omega
    exact h2) (fun x y hx hxy => by
    obtain ⟨q, hq, he⟩ := arr_mem hxy
    obtain ⟨h1, h2⟩ := cut13_lt hxy
    exact h q hq x y he h1 h2 (hx.imp (fun e => by rw [e]) id))
theorem Bb13.step {w w' : World} {g n : Nat} {m : Nat → Bool} (q : Bb13 w g n m) (hb : Below w.heap.size w w') : Bb13 w' g n m := by
  obtain ⟨cs, h1, h2⟩ := q
  exact ⟨cs, h1.below hb h1.lt, h2⟩
theorem made_b13 (W : World) (n : Nat) : Bb13 (W.alloc (.cells (madeCells #[.bool false] n) 4)) W.heap.size n (fun _ => false) := made13 W 4 n (.bool false)
def bn13 (b : Bool) : Nat := if b then 1 else 0

/-- What the document's Reach says. -/
def RetR13 (w : World) (n : Nat) (l : List (Int × Int)) (a : Int) (e : Ending) (w' : World) : Prop :=
  ∃ g T, e = .returned (.slice (some ⟨g, 0, none⟩) n n) ∧ Rv w' w'.heap.size (some ⟨g, 0, none⟩) (bls T n) ∧ (∀ b : Nat, a = (b : Int) → ∀ y, T y = wayb (cut13 n l) b y) ∧ Below w.heap.size w w'

set_option maxHeartbeats 8000000 in
theorem rreach13_any (n : Nat) (Ad : Option Addr) (l : List (Int × Int)) (m c : Nat) (a : Int) (w : World) (hl : l.length = m) (hr : Aq w w.heap.size Ad l) (hm : m ≤ 1000000) (hn : n ≤ 1000000) :
    Calls Try.prog 7 #[.int .i64 (n : Int), .slice Ad m c, .int .i64 a] w (RetR13 w n l a) := by
  have HP : Hid (RetR13 w n l a = fun e w' => ∃ g T, e = .returned (.slice (some ⟨g, 0, none⟩) n n) ∧ Rv w' w'.heap.size (some ⟨g, 0, none⟩) (bls T n) ∧ (∀ b : Nat, a = (b : Int) → ∀ y, T y = wayb (cut13 n l) b y) ∧ Below w.heap.size w w') := Lib.hid rfl
  have HR := Lib.hid hr
  have HL := Lib.hid hl
  have hmk := make_bools13 n hn
  have HM0 := Lib.hid (made_b13 w n)
  have HB0 := Lib.hid (b1' w (.cells (madeCells #[.bool false] n) 4))
  have hun0 := un13_le (fun _ => false) n
  clear hr hl
  go_enter Try.func7, Try.ntmps7
  go_wp2_with fail
  clear hmk
  go_loopg [8] (n + 2) (fun kx v wr => ∃ (K : Nat) (mk : Nat → Bool) (ag : Bool), K = kx ∧ v = .bool ag ∧ un13 mk n + bn13 ag ≤ K ∧ Hid (Bb13 wr w.heap.size n mk) ∧ Hid (∀ x, mk x = true → ∃ b : Nat, a = (b : Int) ∧ Way (cut13 n l) b x) ∧ Hid (ag = false → Cl13 l n a mk m) ∧ Hid (Below w.heap.size w wr))
  case atStart => exact ⟨n + 2, _, true, rfl, rfl, by simp only [bn13, if_true]; omega, HM0, Lib.hid (fun x h => by cases h), Lib.hid (fun h => by cases h), HB0⟩
  case round =>
    clear HM0 HB0 hun0
    obtain ⟨K, mk, ag, rfl, rfl, hme, HM, HS, HC, HB⟩ := hrel
    cases ag with
    | false =>
      have HRV := Lib.hid (HM.out.rv (T := mk) (fun _ => rfl))
      have HCL := Lib.hid (HC.out rfl)
      go_wp2_with fail
      go_ret
      rw [HP.out]
      refine ⟨w.heap.size, mk, rfl, HRV.out, fun b hb => ?_, HB.out⟩
      subst hb
      have h1 := HCL.out
      have h2 := HL.out
      rw [← h2] at h1
      exact h1.end_ HS.out
    | true =>
      have hme2 : un13 mk n + 1 ≤ K := hme
      clear hme HC
      go_wp2_with fail
      go_loopw [8, 9] (fun v iv wi => ∃ (p : Nat) (mk2 : Nat → Bool) (ag : Bool), v = .bool ag ∧ iv = .int .i64 (p : Int) ∧ p ≤ m ∧ un13 mk2 n + bn13 ag + 1 ≤ K ∧ Hid (Bb13 wi w.heap.size n mk2) ∧ Hid (∀ x, mk2 x = true → ∃ b : Nat, a = (b : Int) ∧ Way (cut13 n l) b x) ∧ Hid (ag = false → Cl13 l n a mk2 p) ∧ Hid (Below w.heap.size w wi)) (fun _ iv _ => m - (intOf iv).toNat)
      case atStart => exact ⟨0, mk, false, rfl, rfl, by omega, by simp [bn13]; omega, HM, HS, Lib.hid (fun _ q hq => by omega), HB⟩
      case round =>
        clear HM HS HB hme2
        obtain ⟨p, mk2, ag, rfl, rfl, hp, hme, HM, HS, HC, HB⟩ := hrel
        by_cases hpm : p < m
        · have hpl : p < l.length := by have := HL.out; omega
          obtain ⟨ba, o, hA, _, c0, c1⟩ := Aq.at_ (Rv.below HR.out HB.out (Nat.le_refl _)) hpl
          subst hA
          obtain ⟨fi, hfi⟩ : ∃ x, (arr l p).1 = x := ⟨_, rfl⟩
          obtain ⟨ti, hti⟩ : ∃ x, (arr l p).2 = x := ⟨_, rfl⟩
          rw [hfi] at c0
          rw [hti] at c1
          have HAR : Hid (arr l p = (fi, ti)) := Lib.hid (by rw [← hfi, ← hti])
          have hb1 := b1' wr (.cells #[.int .i64 fi, .int .i64 ti] 40)
          have hbk := Blk.new wr 40 #[.int .i64 fi, .int .i64 ti]
          have x0 := hbk.cell 0
          have x1 := hbk.cell 1
          have HM1 := Lib.hid (HM.out.step hb1)
          have HB1 := Lib.hid (HB.out.trans (hb1.mono HB.out.size))
          have i0 : (0 : Int) ≤ (p : Int) := by omega
          have i1 : (p : Int) < (m : Int) := by omega
          clear hfi hti hb1 hbk
          by_cases hf0 : fi < 0
          · have HC1 : Hid (ag = false → Cl13 l n a mk2 (p + 1)) := Lib.hid (fun h => (HC.out h).next (fun x y he hx hy hh => by
              rw [HAR.out] at he
              injection he with h1 h2
              omega))
            go_wp2_with fail
            go_roundw
            case rel => exact ⟨p + 1, mk2, ag, rfl, by go_num, by omega, hme, HM1, HS, HC1, HB1⟩
            case measure => simp [intOf]; omega
          · by_cases hfn : (n : Int) ≤ fi
            · have HC1 : Hid (ag = false → Cl13 l n a mk2 (p + 1)) := Lib.hid (fun h => (HC.out h).next (fun x y he hx hy hh => by
                rw [HAR.out] at he
                injection he with h1 h2
                omega))
              go_wp2_with fail
              go_roundw
              case rel => exact ⟨p + 1, mk2, ag, rfl, by go_num, by omega, hme, HM1, HS, HC1, HB1⟩
              case measure => simp [intOf]; omega
            · by_cases ht0 : ti < 0
              · have HC1 : Hid (ag = false → Cl13 l n a mk2 (p + 1)) := Lib.hid (fun h => (HC.out h).next (fun x y he hx hy hh => by
                  rw [HAR.out] at he
                  injection he with h1 h2
                  omega))
                go_wp2_with fail
                go_roundw
                case rel => exact ⟨p + 1, mk2, ag, rfl, by go_num, by omega, hme, HM1, HS, HC1, HB1⟩
                case measure => simp [intOf]; omega
              · by_cases htn : (n : Int) ≤ ti
                · have HC1 : Hid (ag = false → Cl13 l n a mk2 (p + 1)) := Lib.hid (fun h => (HC.out h).next (fun x y he hx hy hh => by
                    rw [HAR.out] at he
                    injection he with h1 h2
                    omega))
                  go_wp2_with fail
                  go_roundw
                  case rel => exact ⟨p + 1, mk2, ag, rfl, by go_num, by omega, hme, HM1, HS, HC1, HB1⟩
                  case measure => simp [intOf]; omega
                · obtain ⟨f, rfl⟩ : ∃ f : Nat, fi = (f : Int) := ⟨fi.toNat, by omega⟩
                  obtain ⟨t, rfl⟩ : ∃ t : Nat, ti = (t : Int) := ⟨ti.toNat, by omega⟩
                  have hfN : f < n := by omega
                  have htN : t < n := by omega
                  obtain ⟨mt, mtf⟩ := HM1.out.cells htN
                  obtain ⟨mf, mff⟩ := HM1.out.cells hfN
                  have t0 : (0 : Int) ≤ (t : Int) := by omega
                  have t1 : (t : Int) < (n : Int) := by omega
                  have f0 : (0 : Int) ≤ (f : Int) := by omega
                  have f1 : (f : Int) < (n : Int) := by omega
                  cases hmt : mk2 t with
                  | true =>
                    rw [hmt] at mt
                    have HC1 : Hid (ag = false → Cl13 l n a mk2 (p + 1)) := Lib.hid (fun h => (HC.out h).next (fun x y he hx hy hh => by
                      rw [HAR.out] at he
                      injection he with h1 h2
                      obtain rfl : t = y := by omega
                      exact hmt))
                    clear hmt mf mff mtf
                    go_wp2_with fail
                    go_roundw
                    case rel => exact ⟨p + 1, mk2, ag, rfl, by go_num, by omega, hme, HM1, HS, HC1, HB1⟩
                    case measure => simp [intOf]; omega
                  | false =>
                    rw [hmt] at mt
                    have hun := un13_mark htN hmt
                    have HIN := Lib.hid (arr_in hpl HAR.out hfN htN)
                    by_cases hfa : (f : Int) = a
                    · have HM2 := Lib.hid (HM1.out.put htN true)
                      have HB2 := Lib.hid (HB1.out.setCell (p := ⟨w.heap.size, t, none⟩) (Nat.le_refl _) (.bool true))
                      have HS2 : Hid (∀ x, upd mk2 t true x = true → ∃ b : Nat, a = (b : Int) ∧ Way (cut13 n l) b x) := Lib.hid (fun x hx => by
                        by_cases e : x = t
                        · subst e
                          exact ⟨f, hfa.symm, .one HIN.out⟩
                        · rw [upd_far _ _ e] at hx
                          exact HS.out x hx)
                      have hbn : bn13 ag ≤ 1 := by unfold bn13; split <;> omega
                      subst hfa
                      clear hmt mf mff
                      go_wp2_with fail
                      go_roundw
                      case rel => exact ⟨p + 1, _, true, rfl, by go_num, by omega, by simp only [bn13, if_true]; omega, HM2, HS2, Lib.hid (fun h => by cases h), HB2⟩
                      case measure => simp [intOf]; omega
                    · have hfa2 : ((f : Int) == a) = false := by simp [hfa]
                      cases hmf : mk2 f with
                      | true =>
                        rw [hmf] at mf
                        have HM2 := Lib.hid (HM1.out.put htN true)
                        have HB2 := Lib.hid (HB1.out.setCell (p := ⟨w.heap.size, t, none⟩) (Nat.le_refl _) (.bool true))
                        have HS2 : Hid (∀ x, upd mk2 t true x = true → ∃ b : Nat, a = (b : Int) ∧ Way (cut13 n l) b x) := Lib.hid (fun x hx => by
                          by_cases e : x = t
                          · subst e
                            obtain ⟨b, h1, h2⟩ := HS.out f hmf
                            exact ⟨b, h1, h2.step HIN.out⟩
                          · rw [upd_far _ _ e] at hx
                            exact HS.out x hx)
                        clear hmt hmf mff
                        go_wp2_with fail
                        go_roundw
                        case rel => exact ⟨p + 1, _, true, rfl, by go_num, by omega, by simp only [bn13, if_true]; omega, HM2, HS2, Lib.hid (fun h => by cases h), HB2⟩
                        case measure => simp [intOf]; omega
                      | false =>
                        rw [hmf] at mf
                        have HC1 : Hid (ag = false → Cl13 l n a mk2 (p + 1)) := Lib.hid (fun h => (HC.out h).next (fun x y he hx hy hh => by
                          rw [HAR.out] at he
                          injection he with h1 h2
                          obtain rfl : f = x := by omega
                          rcases hh with h3 | h3
                          · exact absurd h3 hfa
                          · rw [hmf] at h3
                            cases h3))
                        clear hmt hmf mff
                        go_wp2_with fail
                        go_roundw
                        case rel => exact ⟨p + 1, mk2, ag, rfl, by go_num, by omega, hme, HM1, HS, HC1, HB1⟩
                        case measure => simp [intOf]; omega
        · obtain rfl : p = m := by omega
          have p1 : ¬ (p : Int) < (p : Int) := by omega
          go_wp2_with fail
          go_roundg (un13 mk2 n + bn13 ag)
          case measure => omega
          case rel => exact ⟨_, mk2, ag, rfl, rfl, Nat.le_refl _, HM, HS, HC, HB⟩

set_option maxHeartbeats 4000000 in
theorem rring13_any (n : Nat) (Ad : Option Addr) (l : List (Int × Int)) (m c : Nat) (os : List Nat) (w : World) (hl : l.length = m) (hr : Aq w w.heap.size Ad l) (hm : m ≤ 1000000) (hn : n ≤ 1000000) (hd : Done13 (cut13 n l) n os) :
    Calls Try.prog 8 #[.int .i64 (n : Int), .slice Ad m c] w fun e w' => e = .returned (.bool (!decide (os.length = n))) ∧ Below w.heap.size w w' := by
  have HR := Lib.hid hr
  have HL := Lib.hid hl
  have HIN : Hid (In13 (cut13 n l) n) := Lib.hid (fun p hp => cut13_lt hp)
  have HRG := Lib.hid (hd.ring HIN.out)
  have hle := hd.1.len
  have HC := Lib.hid (fun (i : Nat) (W : World) (hb : Below w.heap.size w W) => rreach13_any n Ad l m c (i : Int) W hl (Rv.step hr hb) hm hn)
  obtain ⟨b, hbb⟩ : ∃ b, (!decide (os.length = n)) = b := ⟨_, rfl⟩
  have HBB := Lib.hid hbb
  have HLE := Lib.hid hle
  rw [hbb]
  clear hr hl hd hbb hle
  go_enter Try.func8, Try.ntmps8
  go_wp2_with fail
  go_loopw [5] (fun iv wr => ∃ i : Nat, iv = .int .i64 (i : Int) ∧ i ≤ n ∧ Hid (∀ j, j < i → wayb (cut13 n l) j j = false) ∧ Hid (Below w.heap.size w wr)) (fun iv _ => n - (intOf iv).toNat)
  case atStart => exact ⟨0, rfl, by omega, Lib.hid (fun j h => by omega), Lib.hid (Below.refl _ _)⟩
  case round =>
    obtain ⟨i, rfl, hi, HF, HB⟩ := hrel
    by_cases hin : i < n
    · have HCI := Lib.hid (HC.out i wr HB.out)
      have i0 : (0 : Int) ≤ (i : Int) := by omega
      have i1 : (i : Int) < (n : Int) := by omega
      go_wp2_with fail
      refine HCI.out.mono ?_
      rintro e w1 ⟨g, T, rfl, hrv, hT, hb1⟩
      obtain ⟨a, o, hA, _, ca⟩ := bls_at hrv hin
      injection hA with hA
      injection hA with hA1 hA2
      subst hA1 hA2
      rw [Nat.zero_add] at ca
      have hTi := hT i rfl i
      have HB1 := Lib.hid (HB.out.trans (hb1.mono HB.out.size))
      clear HCI hrv hT hb1
      cases ht : T i with
      | true =>
        rw [ht] at ca hTi
        have HBT : Hid (b = true) := Lib.hid (by
          have h1 := HRG.out.1 ⟨i, wayb_yes.1 hTi.symm⟩
          rw [← HBB.out, decide_eq_false (by omega)]
          rfl)
        clear ht hTi
        go_wp2_with fail
        go_ret
        exact ⟨by rw [HBT.out]; rfl, HB1.out⟩
      | false =>
        rw [ht] at ca hTi
        have HF1 : Hid (∀ j, j < i + 1 → wayb (cut13 n l) j j = false) := Lib.hid (fun j hj => by
          rcases (show j < i ∨ j = i by omega) with h | rfl
          · exact HF.out j h
          · exact hTi.symm)
        clear ht hTi
        go_wp2_with fail
        go_roundw
        case rel => exact ⟨i + 1, by go_num, by omega, HF1, HB1⟩
        case measure => simp [intOf]; omega
    · obtain rfl : i = n := by omega
      have HBF : Hid (b = false) := Lib.hid (by
        have h1 : ¬ Rng13 (cut13 i l) := by
          rintro ⟨j, hj⟩
          have h2 := HF.out j (hj.lt HIN.out).1
          rw [wayb_yes.2 hj] at h2
          cases h2
        have h3 : ¬ os.length < i := fun h => h1 (HRG.out.2 h)
        rw [← HBB.out, decide_eq_true (by have := HLE.out; omega)]
        rfl)
      have i1 : ¬ (i : Int) < (i : Int) := by omega
      go_wp2_with fail
      go_ret
      exact ⟨by rw [HBF.out]; rfl, HB.out⟩
end Go.Proofs.Ytojdgcalpdbifaa
