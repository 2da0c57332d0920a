/-
  SaidChainEnds, part 3 of 8: what the theorem chainEnds_holds reaches.
-/
import Derived.Test.YtfjpjbgdmebihaaCE2
import Derived.RangeFuncCalls
import Derived.Sort.OwnSortedInts
namespace Go.Proofs.Ytfjpjbgdmebihaa
open Go.RowKit
set_option maxRecDepth 100000
/-- The first p arrows are kept: whoever they lead to from a, or from one that is marked, is marked. -/
def Cl13 (l : List (Int × Int)) (n : Nat) (a : Int) (m : Nat → Bool) (p : Nat) : Prop :=
  ∀ q, q < p → ∀ x y : Nat, arr l q = ((x : Int), (y : Int)) → x < n → y < n → ((x : Int) = a ∨ m x = true) → m y = true
theorem Cl13.next {l : List (Int × Int)} {n p : Nat} {a : Int} {m : Nat → Bool} (h : Cl13 l n a m p) (hp : ∀ x y : Nat, arr l p = ((x : Int), (y : Int)) → x < n → y < n → ((x : Int) = a ∨ m x = true) → m y = true) : Cl13 l n a m (p + 1) := by
  intro q hq
  rcases (show q < p ∨ q = p by omega) with h1 | rfl
  · exact h q h1
  · exact hp
theorem arr_mem {l : List (Int × Int)} {n x y : Nat} (h : (x, y) ∈ cut13 n l) : ∃ q, q < l.length ∧ arr l q = ((x : Int), (y : Int)) := by
  obtain ⟨q, hq, he⟩ := List.getElem_of_mem (cut13_mem.1 h).1
  exact ⟨q, hq, by simp [arr, List.getElem?_eq_getElem hq, he]⟩
theorem arr_in {l : List (Int × Int)} {n x y q : Nat} (hq : q < l.length) (h : arr l q = ((x : Int), (y : Int))) (hx : x < n) (hy : y < n) : (x, y) ∈ cut13 n l := by
  refine cut13_mem.2 ⟨?_, hx, hy⟩
  rw [← h]
  have : arr l q = l[q] := by simp [arr, List.getElem?_eq_getElem hq]
  rw [this]
  exact List.getElem_mem hq
theorem Cl13.end_ {l : List (Int × Int)} {n b : Nat} {m : Nat → Bool} (h : Cl13 l n (b : Int) m l.length) (hs : ∀ x, m x = true → ∃ b' : Nat, (b : Int) = (b' : Int) ∧ Way (cut13 n l) b' x) : ∀ y, m y = wayb (cut13 n l) b y :=
  mark13 (fun x hx => by
    obtain ⟨b', h1, h2⟩ := hs x hx
    obtain rfl : b' = b := by omega
    exact h2) (fun x y hx hxy => by
    obtain ⟨q, hq, he⟩ := arr_mem hxy
    obtain ⟨h1, h2⟩ := cut13_lt hxy
    exact h q hq x y he h1 h2 (hx.imp (fun e => by rw [e]) id))
theorem Bb13.step {w w' : World} {g n : Nat} {m : Nat → Bool} (q : Bb13 w g n m) (hb : Below w.heap.size w w') : Bb13 w' g n m := by
  obtain ⟨cs, h1, h2⟩ := q
  exact ⟨cs, h1.below hb h1.lt, h2⟩
theorem made_b13 (W : World) (n : Nat) : Bb13 (W.alloc (.cells (madeCells #[.bool false] n) 4)) W.heap.size n (fun _ => false) := made13 W 4 n (.bool false)
def bn13 (b : Bool) : Nat := if b then 1 else 0
/-- What the document's Reach says. -/
def RetR13 (w : World) (n : Nat) (l : List (Int × Int)) (a : Int) (e : Ending) (w' : World) : Prop :=
  ∃ g T, e = .returned (.slice (some ⟨g, 0, none⟩) n n) ∧ Rv w' w'.heap.size (some ⟨g, 0, none⟩) (bls T n) ∧ (∀ b : Nat, a = (b : Int) → ∀ y, T y = wayb (cut13 n l) b y) ∧ Below w.heap.size w w'
set_option maxHeartbeats 8000000 in
theorem rreach13_any (n : Nat) (Ad : Option Addr) (l : List (Int × Int)) (m c : Nat) (a : Int) (w : World) (hl : l.length = m) (hr : Aq w w.heap.size Ad l) (hm : m ≤ 1000000) (hn : n ≤ 1000000) :
    Calls Try.prog 35 #[.int .i64 (n : Int), .slice Ad m c, .int .i64 a] w (RetR13 w n l a) := by
  have HP : Hid (RetR13 w n l a = fun e w' => ∃ g T, e = .returned (.slice (some ⟨g, 0, none⟩) n n) ∧ Rv w' w'.heap.size (some ⟨g, 0, none⟩) (bls T n) ∧ (∀ b : Nat, a = (b : Int) → ∀ y, T y = wayb (cut13 n l) b y) ∧ Below w.heap.size w w') := Lib.hid rfl
  have HR := Lib.hid hr
  have HL := Lib.hid hl
  have hmk := make_bools13 n hn
  have HM0 := Lib.hid (made_b13 w n)
  have HB0 := Lib.hid (b1' w (.cells (madeCells #[.bool false] n) 4))
  have hun0 := un13_le (fun _ => false) n
  clear hr hl
  go_enter Try.func35, Try.ntmps35
  go_wp2_with fail
  clear hmk
  go_loopg [8] (n + 2) (fun kx v wr => ∃ (K : Nat) (mk : Nat → Bool) (ag : Bool), K = kx ∧ v = .bool ag ∧ un13 mk n + bn13 ag ≤ K ∧ Hid (Bb13 wr w.heap.size n mk) ∧ Hid (∀ x, mk x = true → ∃ b : Nat, a = (b : Int) ∧ Way (cut13 n l) b x) ∧ Hid (ag = false → Cl13 l n a mk m) ∧ Hid (Below w.heap.size w wr))
  case atStart => exact ⟨n + 2, _, true, rfl, rfl, by simp only [bn13, if_true]; omega, HM0, Lib.hid (fun x h => by cases h), Lib.hid (fun h => by cases h), HB0⟩
  case round =>
    clear HM0 HB0 hun0
    obtain ⟨K, mk, ag, rfl, rfl, hme, HM, HS, HC, HB⟩ := hrel
    cases ag with
    | false =>
      have HRV := Lib.hid (HM.out.rv (T := mk) (fun _ => rfl))
      have HCL := Lib.hid (HC.out rfl)
      go_wp2_with fail
      go_ret
      rw [HP.out]
      refine ⟨w.heap.size, mk, rfl, HRV.out, fun b hb => ?_, HB.out⟩
      subst hb
      have h1 := HCL.out
      have h2 := HL.out
      rw [← h2] at h1
      exact h1.end_ HS.out
    | true =>
      have hme2 : un13 mk n + 1 ≤ K := hme
      clear hme HC
      go_wp2_with fail
      go_loopw [8, 9] (fun v iv wi => ∃ (p : Nat) (mk2 : Nat → Bool) (ag : Bool), v = .bool ag ∧ iv = .int .i64 (p : Int) ∧ p ≤ m ∧ un13 mk2 n + bn13 ag + 1 ≤ K ∧ Hid (Bb13 wi w.heap.size n mk2) ∧ Hid (∀ x, mk2 x = true → ∃ b : Nat, a = (b : Int) ∧ Way (cut13 n l) b x) ∧ Hid (ag = false → Cl13 l n a mk2 p) ∧ Hid (Below w.heap.size w wi)) (fun _ iv _ => m - (intOf iv).toNat)
      case atStart => exact ⟨0, mk, false, rfl, rfl, by omega, by simp [bn13]; omega, HM, HS, Lib.hid (fun _ q hq => by omega), HB⟩
      case round =>
        clear HM HS HB hme2
        obtain ⟨p, mk2, ag, rfl, rfl, hp, hme, HM, HS, HC, HB⟩ := hrel
        by_cases hpm : p < m
        · have hpl : p < l.length := by have := HL.out; omega
          obtain ⟨ba, o, hA, _, c0, c1⟩ := Aq.at_ (Rv.below HR.out HB.out (Nat.le_refl _)) hpl
          subst hA
          obtain ⟨fi, hfi⟩ : ∃ x, (arr l p).1 = x := ⟨_, rfl⟩
          obtain ⟨ti, hti⟩ : ∃ x, (arr l p).2 = x := ⟨_, rfl⟩
          rw [hfi] at c0
          rw [hti] at c1
          have HAR : Hid (arr l p = (fi, ti)) := Lib.hid (by rw [← hfi, ← hti])
          have hb1 := b1' wr (.cells #[.int .i64 fi, .int .i64 ti] 49)
          have hbk := Blk.new wr 49 #[.int .i64 fi, .int .i64 ti]
          have x0 := hbk.cell 0
          have x1 := hbk.cell 1
          have HM1 := Lib.hid (HM.out.step hb1)
          have HB1 := Lib.hid (HB.out.trans (hb1.mono HB.out.size))
          have i0 : (0 : Int) ≤ (p : Int) := by omega
          have i1 : (p : Int) < (m : Int) := by omega
          clear hfi hti hb1 hbk
          by_cases hf0 : fi < 0
          · have HC1 : Hid (ag = false → Cl13 l n a mk2 (p + 1)) := Lib.hid (fun h => (HC.out h).next (fun x y he hx hy hh => by
              rw [HAR.out] at he
              injection he with h1 h2
              omega))
            go_wp2_with fail
            go_roundw
            case rel => exact ⟨p + 1, mk2, ag, rfl, by go_num, by omega, hme, HM1, HS, HC1, HB1⟩
            case measure => simp [intOf]; omega
          · by_cases hfn : (n : Int) ≤ fi
            · have HC1 : Hid (ag = false → Cl13 l n a mk2 (p + 1)) := Lib.hid (fun h => (HC.out h).next (fun x y he hx hy hh => by
                rw [HAR.out] at he
                injection he with h1 h2
                omega))
              go_wp2_with fail
              go_roundw
              case rel => exact ⟨p + 1, mk2, ag, rfl, by go_num, by omega, hme, HM1, HS, HC1, HB1⟩
              case measure => simp [intOf]; omega
            · by_cases ht0 : ti < 0
              · have HC1 : Hid (ag = false → Cl13 l n a mk2 (p + 1)) := Lib.hid (fun h => (HC.out h).next (fun x y he hx hy hh => by
                  rw [HAR.out] at he
                  injection he with h1 h2
                  omega))
                go_wp2_with fail
                go_roundw
                case rel => exact ⟨p + 1, mk2, ag, rfl, by go_num, by omega, hme, HM1, HS, HC1, HB1⟩
                case measure => simp [intOf]; omega
              · by_cases htn : (n : Int) ≤ ti
                · have HC1 : Hid (ag = false → Cl13 l n a mk2 (p + 1)) := Lib.hid (fun h => (HC.out h).next (fun x y he hx hy hh => by
                    rw [HAR.out] at he
                    injection he with h1 h2
                    omega))
                  go_wp2_with fail
                  go_roundw
                  case rel => exact ⟨p + 1, mk2, ag, rfl, by go_num, by omega, hme, HM1, HS, HC1, HB1⟩
                  case measure => simp [intOf]; omega
                · obtain ⟨f, rfl⟩ : ∃ f : Nat, fi = (f : Int) := ⟨fi.toNat, by omega⟩
                  obtain ⟨t, rfl⟩ : ∃ t : Nat, ti = (t : Int) := ⟨ti.toNat, by omega⟩
                  have hfN : f < n := by omega
                  have htN : t < n := by omega
                  obtain ⟨mt, mtf⟩ := HM1.out.cells htN
                  obtain ⟨mf, mff⟩ := HM1.out.cells hfN
                  have t0 : (0 : Int) ≤ (t : Int) := by omega
                  have t1 : (t : Int) < (n : Int) := by omega
                  have f0 : (0 : Int) ≤ (f : Int) := by omega
                  have f1 : (f : Int) < (n : Int) := by omega
                  cases hmt : mk2 t with
                  | true =>
                    rw [hmt] at mt
                    have HC1 : Hid (ag = false → Cl13 l n a mk2 (p + 1)) := Lib.hid (fun h => (HC.out h).next (fun x y he hx hy hh => by
                      rw [HAR.out] at he
                      injection he with h1 h2
                      obtain rfl : t = y := by omega
                      exact hmt))
                    clear hmt mf mff mtf
                    go_wp2_with fail
                    go_roundw
                    case rel => exact ⟨p + 1, mk2, ag, rfl, by go_num, by omega, hme, HM1, HS, HC1, HB1⟩
                    case measure => simp [intOf]; omega
                  | false =>
                    rw [hmt] at mt
                    have hun := un13_mark htN hmt
                    have HIN := Lib.hid (arr_in hpl HAR.out hfN htN)
                    by_cases hfa : (f : Int) = a
                    · have HM2 := Lib.hid (HM1.out.put htN true)
                      have HB2 := Lib.hid (HB1.out.setCell (p := ⟨w.heap.size, t, none⟩) (Nat.le_refl _) (.bool true))
                      have HS2 : Hid (∀ x, upd mk2 t true x = true → ∃ b : Nat, a = (b : Int) ∧ Way (cut13 n l) b x) := Lib.hid (fun x hx => by
                        by_cases e : x = t
                        · subst e
                          exact ⟨f, hfa.symm, .one HIN.out⟩
                        · rw [upd_far _ _ e] at hx
                          exact HS.out x hx)
                      have hbn : bn13 ag ≤ 1 := by unfold bn13; split <;> omega
                      subst hfa
                      clear hmt mf mff
                      go_wp2_with fail
                      go_roundw
                      case rel => exact ⟨p + 1, _, true, rfl, by go_num, by omega, by simp only [bn13, if_true]; omega, HM2, HS2, Lib.hid (fun h => by cases h), HB2⟩
                      case measure => simp [intOf]; omega
                    · have hfa2 : ((f : Int) == a) = false := by simp [hfa]
                      cases hmf : mk2 f with
                      | true =>
                        rw [hmf] at mf
                        have HM2 := Lib.hid (HM1.out.put htN true)
                        have HB2 := Lib.hid (HB1.out.setCell (p := ⟨w.heap.size, t, none⟩) (Nat.le_refl _) (.bool true))
                        have HS2 : Hid (∀ x, upd mk2 t true x = true → ∃ b : Nat, a = (b : Int) ∧ Way (cut13 n l) b x) := Lib.hid (fun x hx => by
                          by_cases e : x = t
                          · subst e
                            obtain ⟨b, h1, h2⟩ := HS.out f hmf
                            exact ⟨b, h1, h2.step HIN.out⟩
                          · rw [upd_far _ _ e] at hx
                            exact HS.out x hx)
                        clear hmt hmf mff
                        go_wp2_with fail
                        go_roundw
                        case rel => exact ⟨p + 1, _, true, rfl, by go_num, by omega, by simp only [bn13, if_true]; omega, HM2, HS2, Lib.hid (fun h => by cases h), HB2⟩
                        case measure => simp [intOf]; omega
                      | false =>
                        rw [hmf] at mf
                        have HC1 : Hid (ag = false → Cl13 l n a mk2 (p + 1)) := Lib.hid (fun h => (HC.out h).next (fun x y he hx hy hh => by
                          rw [HAR.out] at he
                          injection he with h1 h2
                          obtain rfl : f = x := by omega
                          rcases hh with h3 | h3
                          · exact absurd h3 hfa
                          · rw [hmf] at h3
                            cases h3))
                        clear hmt hmf mff
                        go_wp2_with fail
                        go_roundw
                        case rel => exact ⟨p + 1, mk2, ag, rfl, by go_num, by omega, hme, HM1, HS, HC1, HB1⟩
                        case measure => simp [intOf]; omega
        · obtain rfl : p = m := by omega
          have p1 : ¬ (p : Int) < (p : Int) := by omega
          go_wp2_with fail
          go_roundg (un13 mk2 n + bn13 ag)
          case measure => omega
          case rel => exact ⟨_, mk2, ag, rfl, rfl, Nat.le_refl _, HM, HS, HC, HB⟩
set_option maxHeartbeats 4000000 in
theorem rring13_any (n : Nat) (Ad : Option Addr) (l : List (Int × Int)) (m c : Nat) (os : List Nat) (w : World) (hl : l.length = m) (hr : Aq w w.heap.size Ad l) (hm : m ≤ 1000000) (hn : n ≤ 1000000) (hd : Done13 (cut13 n l) n os) :
    Calls Try.prog 25 #[.int .i64 (n : Int), .slice Ad m c] w fun e w' => e = .returned (.bool (!decide (os.length = n))) ∧ Below w.heap.size w w' := by
  have HR := Lib.hid hr
  have HL := Lib.hid hl
  have HIN : Hid (In13 (cut13 n l) n) := Lib.hid (fun p hp => cut13_lt hp)
  have HRG := Lib.hid (hd.ring HIN.out)
  have hle := hd.1.len
  have HC := Lib.hid (fun (i : Nat) (W : World) (hb : Below w.heap.size w W) => rreach13_any n Ad l m c (i : Int) W hl (Rv.step hr hb) hm hn)
  obtain ⟨b, hbb⟩ : ∃ b, (!decide (os.length = n)) = b := ⟨_, rfl⟩
  have HBB := Lib.hid hbb
  have HLE := Lib.hid hle
  rw [hbb]
  clear hr hl hd hbb hle
  go_enter Try.func25, Try.ntmps25
  go_wp2_with fail
  go_loopw [5] (fun iv wr => ∃ i : Nat, iv = .int .i64 (i : Int) ∧ i ≤ n ∧ Hid (∀ j, j < i → wayb (cut13 n l) j j = false) ∧ Hid (Below w.heap.size w wr)) (fun iv _ => n - (intOf iv).toNat)
  case atStart => exact ⟨0, rfl, by omega, Lib.hid (fun j h => by omega), Lib.hid (Below.refl _ _)⟩
  case round =>
    obtain ⟨i, rfl, hi, HF, HB⟩ := hrel
    by_cases hin : i < n
    · have HCI := Lib.hid (HC.out i wr HB.out)
      have i0 : (0 : Int) ≤ (i : Int) := by omega
      have i1 : (i : Int) < (n : Int) := by omega
      go_wp2_with fail
      refine HCI.out.mono ?_
      rintro e w1 ⟨g, T, rfl, hrv, hT, hb1⟩
      obtain ⟨a, o, hA, _, ca⟩ := bls_at hrv hin
      injection hA with hA
      injection hA with hA1 hA2
      subst hA1 hA2
      rw [Nat.zero_add] at ca
      have hTi := hT i rfl i
      have HB1 := Lib.hid (HB.out.trans (hb1.mono HB.out.size))
      clear HCI hrv hT hb1
      cases ht : T i with
      | true =>
        rw [ht] at ca hTi
        have HBT : Hid (b = true) := Lib.hid (by
          have h1 := HRG.out.1 ⟨i, wayb_yes.1 hTi.symm⟩
          rw [← HBB.out, decide_eq_false (by omega)]
          rfl)
        clear ht hTi
        go_wp2_with fail
        go_ret
        exact ⟨by rw [HBT.out]; rfl, HB1.out⟩
      | false =>
        rw [ht] at ca hTi
        have HF1 : Hid (∀ j, j < i + 1 → wayb (cut13 n l) j j = false) := Lib.hid (fun j hj => by
          rcases (show j < i ∨ j = i by omega) with h | rfl
          · exact HF.out j h
          · exact hTi.symm)
        clear ht hTi
        go_wp2_with fail
        go_roundw
        case rel => exact ⟨i + 1, by go_num, by omega, HF1, HB1⟩
        case measure => simp [intOf]; omega
    · obtain rfl : i = n := by omega
      have HBF : Hid (b = false) := Lib.hid (by
        have h1 : ¬ Rng13 (cut13 i l) := by
          rintro ⟨j, hj⟩
          have h2 := HF.out j (hj.lt HIN.out).1
          rw [wayb_yes.2 hj] at h2
          cases h2
        have h3 : ¬ os.length < i := fun h => h1 (HRG.out.2 h)
        rw [← HBB.out, decide_eq_true (by have := HLE.out; omega)]
        rfl)
      have i1 : ¬ (i : Int) < (i : Int) := by omega
      go_wp2_with fail
      go_ret
      exact ⟨by rw [HBF.out]; rfl, HB.out⟩
end Go.Proofs.Ytfjpjbgdmebihaa
namespace Go.Proofs.Ytfjpjbgdmebihaa
open Go.RowKit
set_option maxRecDepth 100000
/-- The arrows of coins, of the first k tickets. -/
def cArr14 (S : Sv14) : Nat → List (Int × Int)
  | 0 => []
  | k + 1 => cArr14 S k ++ if (gt14 S.T k).u = true ∧ (gt14 S.T k).k = 2 then [((gt14 S.T k).c, (gt14 S.T k).t)] else []
/-- The arrows of threads, of the first k of them. -/
def tArr14 (S : Sv14) : Nat → List (Int × Int)
  | 0 => []
  | k + 1 => tArr14 S k ++ if (gt14 S.H k).s = 4 then [((k : Int), (gt14 S.H k).f)] else if (gt14 S.H k).s = 6 then [((k : Int), (at14 usL S.L (gt14 S.H k).f).h)] else []
theorem cArr14_len (S : Sv14) (k : Nat) : (cArr14 S k).length ≤ k := by
  induction k with
  | zero => exact Nat.le_refl _
  | succ k ih => rw [cArr14, List.length_append]; split <;> simp <;> omega
theorem tArr14_len (S : Sv14) (k : Nat) : (tArr14 S k).length ≤ k := by
  induction k with
  | zero => exact Nat.le_refl _
  | succ k ih => rw [tArr14, List.length_append]; split <;> try split
                 all_goals simp <;> omega
theorem aq14_own {w : World} {base : Nat} {e : TypeId} {A : Option Addr} {c n : Nat} {l : List (Int × Int)} (h : w.ownsRow base e 2 (.slice A n c) n (acs l)) : Aq w w.heap.size A l := by
  intro hx
  have hl := h.1
  have hpos : 0 < (acs l).length := List.length_pos_iff.2 hx
  rcases h.2 with ⟨_, h1⟩ | ⟨g, cap, cur, hv, _, hh, _⟩
  · subst h1
    rw [hl, Nat.zero_mul] at hpos
    omega
  · have hA : A = some ⟨g, 0, none⟩ := by injection hv
    subst hA
    refine ⟨g, 0, rfl, (h.lt g rfl).2, fun i v hk => ?_⟩
    have hc := h.cells (g := g) rfl i _ hk
    rw [Go.WideShapes.add_plain] at hc
    exact hc
/-- A list of arrows is answered. -/
def RetAq14 (w : World) (l : List (Int × Int)) (e : Ending) (w' : World) : Prop := ∃ A c, e = .returned (.slice A l.length c) ∧ Aq w' w'.heap.size A l ∧ Below w.heap.size w w'
end Go.Proofs.Ytfjpjbgdmebihaa
namespace Go.Proofs.Ytfjpjbgdmebihaa
open Go.RowKit Go.Shelf Go.Sort
set_option maxRecDepth 100000
/-- Sorted. -/
def srt14 (zs : List Int) : List Int := zs.mergeSort fun x y => decide (x ≤ y)
theorem srt14_len (zs : List Int) : (srt14 zs).length = zs.length := by simp [srt14]
instance (S : Sv14) (i : Nat) (t : Th14) : Decidable (Queues14 S i t) := by unfold Queues14; infer_instance
/-- Who ought to stand in the Queue, of the first k. -/
def want14 (S : Sv14) : Nat → List Int
  | 0 => []
  | k + 1 => want14 S k ++ if Queues14 S k (gt14 S.H k) then [(k : Int)] else []
theorem want14_len (S : Sv14) (k : Nat) : (want14 S k).length ≤ k := by
  induction k with
  | zero => exact Nat.le_refl _
  | succ k ih => rw [want14, List.length_append]; split <;> simp <;> omega
/-- Is a thread Calling one that is Listening? -/
def Heard14 (S : Sv14) (t : Th14) : Prop := t.s = 4 ∧ (at14 usH S.H t.f).s = 5
def Queue14 (S : Sv14) : Prop := S.Q.length ≤ 32 ∧ (∀ j, j < S.H.length → Queues14 S j (gt14 S.H j) → ¬ Heard14 S (gt14 S.H j)) ∧ srt14 S.Q = want14 S S.H.length
end Go.Proofs.Ytfjpjbgdmebihaa
namespace Go.Proofs.Ytfjpjbgdmebihaa
open Go.RowKit
set_option maxRecDepth 100000
/-- There is no ring: all are told. -/
def Free14R (n : Nat) (l : List (Int × Int)) : Prop := ∃ os, Done13 (cut13 n l) n os ∧ os.length = n
theorem free14R_iff {n : Nat} {l : List (Int × Int)} {os : List Nat} (h : Done13 (cut13 n l) n os) : Free14R n l ↔ os.length = n := by
  constructor
  · rintro ⟨zs, h1, h2⟩
    rw [h.same h1]
    exact h2
  · exact fun e => ⟨os, h, e⟩
/-- A state may be. -/
def Fine14 (S : Sv14) : Prop := 1 ≤ S.q ∧ S.q ≤ 1000 ∧ Tidies14 S ∧ us14 usC S.C 0 = true ∧ Tickets14 S ∧ Threads14 S ∧ Locks14 S ∧ Queue14 S ∧ Free14R S.C.length (cArr14 S S.T.length) ∧ Free14R S.H.length (tArr14 S S.H.length)
end Go.Proofs.Ytfjpjbgdmebihaa
namespace Go.Proofs.Ytfjpjbgdmebihaa
open Go.RowKit
set_option maxRecDepth 100000
theorem in13_cut (n : Nat) (l : List (Int × Int)) : In13 (cut13 n l) n := fun _ hp => cut13_lt hp
theorem free15_ring {n : Nat} {l : List (Int × Int)} : Free14R n l ↔ ¬ Rng13 (cut13 n l) := by
  obtain ⟨os, hd⟩ := done13_ex (cut13 n l) n
  rw [free14R_iff hd, hd.ring (in13_cut n l)]
  have := hd.1.len
  omega
end Go.Proofs.Ytfjpjbgdmebihaa
namespace Go.Proofs.Ytfjpjbgdmebihaa
open Go.RowKit
set_option maxRecDepth 100000
/-- For whom a thread waits. -/
def nxt16 (S : Sv14) (i : Int) : Int := if (at14 usH S.H i).s = 4 then (at14 usH S.H i).f else if (at14 usH S.H i).s = 6 then (at14 usL S.L (at14 usH S.H i).f).h else -1
/-- The arrows of threads. -/
def Ta16 (S : Sv14) : List (Nat × Nat) := cut13 S.H.length (tArr14 S S.H.length)
theorem nxt16_no {S : Sv14} {i : Int} (h : us14 usH S.H i = false) : nxt16 S i = -1 := by
  rw [nxt16, at14_no h]
  rfl
theorem ush16_lt {S : Sv14} {i : Int} (h : us14 usH S.H i = true) : 0 ≤ i ∧ i < (S.H.length : Int) := Classical.byContradiction (fun hn => by rw [us14_off def14H hn] at h; cases h)
theorem usl16_lt {S : Sv14} {i : Int} (h : us14 usL S.L i = true) : 0 ≤ i ∧ i < (S.L.length : Int) := Classical.byContradiction (fun hn => by rw [us14_off def14L hn] at h; cases h)
theorem ush16_of {S : Sv14} {k : Nat} (h : (gt14 S.H k).s = 4 ∨ (gt14 S.H k).s = 6) : us14 usH S.H (k : Int) = true := by
  rw [us14_nat, usH]
  rcases h with h | h <;> rw [h] <;> rfl
theorem tarr16_mem {S : Sv14} {a b : Int} : ∀ {n : Nat}, (a, b) ∈ tArr14 S n ↔ ∃ k : Nat, k < n ∧ a = (k : Int) ∧ ((gt14 S.H k).s = 4 ∧ b = (gt14 S.H k).f ∨ (gt14 S.H k).s = 6 ∧ b = (at14 usL S.L (gt14 S.H k).f).h)
  | 0 => by simp [tArr14]
  | n + 1 => by
    rw [tArr14, List.mem_append, tarr16_mem (n := n)]
    constructor
    · rintro (⟨k, h1, h2⟩ | h)
      · exact ⟨k, by omega, h2⟩
      · split at h
        · next h3 =>
          rw [List.mem_singleton] at h
          injection h with h4 h5
          exact ⟨n, by omega, h4, .inl ⟨h3, h5⟩⟩
        · split at h
          · next h3 =>
            rw [List.mem_singleton] at h
            injection h with h4 h5
            exact ⟨n, by omega, h4, .inr ⟨h3, h5⟩⟩
          · cases h
    · rintro ⟨k, h1, h2, h3⟩
      rcases (show k < n ∨ k = n by omega) with h6 | rfl
      · exact .inl ⟨k, h6, h2, h3⟩
      · right
        rcases h3 with ⟨h4, h5⟩ | ⟨h4, h5⟩
        · rw [if_pos h4, List.mem_singleton, h2, h5]
        · rw [if_neg (by rw [h4]; decide), if_pos h4, List.mem_singleton, h2, h5]
theorem nxt16_arr {S : Sv14} {k : Nat} {b : Int} (hk : k < S.H.length) : ((k : Int), b) ∈ tArr14 S S.H.length ↔ ((gt14 S.H k).s = 4 ∨ (gt14 S.H k).s = 6) ∧ nxt16 S (k : Int) = b := by
  rw [tarr16_mem]
  constructor
  · rintro ⟨j, _, h2, h3⟩
    obtain rfl : k = j := by omega
    have hu := ush16_of (h3.imp And.left And.left)
    refine ⟨h3.imp And.left And.left, ?_⟩
    rw [nxt16, at14_yes hu, Int.toNat_natCast]
    rcases h3 with ⟨h4, h5⟩ | ⟨h4, h5⟩
    · rw [if_pos h4, h5]
    · rw [if_neg (by rw [h4]; decide), if_pos h4, h5]
  · rintro ⟨h1, h2⟩
    have hu := ush16_of h1
    rw [nxt16, at14_yes hu, Int.toNat_natCast] at h2
    rcases h1 with h4 | h4
    · rw [if_pos h4] at h2
      exact ⟨k, hk, rfl, .inl ⟨h4, h2.symm⟩⟩
    · rw [if_neg (by rw [h4]; decide), if_pos h4] at h2
      exact ⟨k, hk, rfl, .inr ⟨h4, h2.symm⟩⟩
/-- In a state that may be one waits for a thread, or for nobody. -/
theorem nxt16_used {S : Sv14} (hf : Fine14 S) (i : Int) : nxt16 S i = -1 ∨ us14 usH S.H (nxt16 S i) = true ∧ ((at14 usH S.H i).s = 4 ∨ (at14 usH S.H i).s = 6) := by
  cases hu : us14 usH S.H i with
  | false => exact .inl (nxt16_no hu)
  | true =>
    have hin := ush16_lt hu
    obtain ⟨k, rfl⟩ : ∃ k : Nat, i = (k : Int) := ⟨i.toNat, by omega⟩
    have hk : k < S.H.length := by omega
    have hx : at14 usH S.H (k : Int) = gt14 S.H k := by rw [at14_yes hu, Int.toNat_natCast]
    have hth := (hf.2.2.2.2.2.1.1 k hk (by rwa [us14_nat] at hu)).1
    rw [nxt16, hx]
    rcases hth with h | h | h
    · rw [if_pos h.1]
      exact .inr ⟨h.2.1, .inl h.1⟩
    · rw [if_neg (by rw [h.1]; decide), if_pos h.1]
      right
      refine ⟨?_, .inr h.1⟩
      have hlu := h.2
      have hli := usl16_lt hlu
      obtain ⟨j, hj⟩ : ∃ j : Nat, (gt14 S.H k).f = (j : Int) := ⟨(gt14 S.H k).f.toNat, by omega⟩
      rw [hj] at hlu hli ⊢
      rw [at14_yes hlu, Int.toNat_natCast]
      have hjl : j < S.L.length := by omega
      have hlk := hf.2.2.2.2.2.2.1 j hjl (by rwa [us14_nat] at hlu)
      rcases hlk with h3 | h3
      · exact absurd ⟨h.1, hj⟩ (h3.2 k hk)
      · exact h3.2.1
    · left
      rw [if_neg (by rcases h.1 with e | e | e | e <;> rw [e] <;> decide), if_neg (by rcases h.1 with e | e | e | e <;> rw [e] <;> decide)]
theorem ta16_mem {S : Sv14} (hf : Fine14 S) {a b : Nat} : (a, b) ∈ Ta16 S ↔ a < S.H.length ∧ nxt16 S (a : Int) = (b : Int) := by
  unfold Ta16
  rw [cut13_mem]
  constructor
  · rintro ⟨h1, h2, h3⟩
    exact ⟨h2, ((nxt16_arr h2).1 h1).2⟩
  · rintro ⟨h1, h2⟩
    rcases nxt16_used hf (a : Int) with h3 | ⟨h3, h4⟩
    · rw [h2] at h3
      omega
    · rw [h2] at h3
      have h5 := ush16_lt h3
      refine ⟨(nxt16_arr h1).2 ⟨?_, h2⟩, h1, by omega⟩
      have hu : us14 usH S.H (a : Int) = true := by
        cases hu : us14 usH S.H (a : Int) with
        | true => rfl
        | false => rw [nxt16_no hu] at h2; omega
      rwa [at14_yes hu, Int.toNat_natCast] at h4
/-- A thread's chain. -/
inductive Chn16 (S : Sv14) : Nat → List Nat → Prop
  | one {i : Nat} : nxt16 S (i : Int) = -1 → Chn16 S i [i]
  | step {i j : Nat} {l : List Nat} : nxt16 S (i : Int) = (j : Int) → Chn16 S j l → Chn16 S i (i :: l)
theorem Chn16.same {S : Sv14} {i : Nat} {l m : List Nat} (h : Chn16 S i l) (k : Chn16 S i m) : l = m := by
  induction h generalizing m with
  | one h1 =>
    cases k with
    | one _ => rfl
    | step h2 _ => omega
  | @step i j l h1 _ ih =>
    cases k with
    | one h2 => omega
    | @step _ j2 l2 h2 h3 =>
      obtain rfl : j = j2 := by omega
      rw [ih h3]
theorem Chn16.head {S : Sv14} {i : Nat} {l : List Nat} (h : Chn16 S i l) : ∃ r, l = i :: r := by
  cases h with
  | one _ => exact ⟨_, rfl⟩
  | step _ _ => exact ⟨_, rfl⟩
theorem Chn16.ne {S : Sv14} {i : Nat} {l : List Nat} (h : Chn16 S i l) : l ≠ [] := by
  obtain ⟨r, rfl⟩ := h.head
  simp
/-- What stands in a chain has the rest of it. -/
theorem Chn16.rest {S : Sv14} {i x : Nat} {l : List Nat} (h : Chn16 S i l) (hx : x ∈ l) : ∃ a r, l = a ++ r ∧ Chn16 S x r := by
  induction h with
  | @one i h1 =>
    obtain rfl : x = i := by simpa using hx
    exact ⟨[], [x], rfl, .one h1⟩
  | @step i j l h1 h2 ih =>
    rw [List.mem_cons] at hx
    rcases hx with rfl | hx
    · exact ⟨[], x :: l, rfl, .step h1 h2⟩
    · obtain ⟨a, r, h3, h4⟩ := ih hx
      exact ⟨i :: a, r, by rw [h3]; rfl, h4⟩
/-- Its end. -/
def lst16 (l : List Nat) : Nat := nth l (l.length - 1)
theorem lst16_app {a r : List Nat} (h : r ≠ []) : lst16 (a ++ r) = lst16 r := by
  have hp := List.length_pos_iff.2 h
  unfold lst16 nth
  rw [List.length_append, List.getD_eq_getElem?_getD, List.getD_eq_getElem?_getD, List.getElem?_append_right (by omega)]
  congr 2
  omega
theorem Chn16.end_ {S : Sv14} {i : Nat} {l : List Nat} (h : Chn16 S i l) : nxt16 S ((lst16 l : Nat) : Int) = -1 ∧ lst16 l ∈ l := by
  induction h with
  | @one i h1 => exact ⟨h1, by simp [lst16, nth]⟩
  | @step i j l h1 h2 ih =>
    have e : lst16 (i :: l) = lst16 l := lst16_app (a := [i]) h2.ne
    rw [e]
    exact ⟨ih.1, List.mem_cons_of_mem _ ih.2⟩
/-- All in a chain have its end. -/
theorem Chn16.ends {S : Sv14} {i x : Nat} {l r : List Nat} (h : Chn16 S i l) (hx : x ∈ l) (hr : Chn16 S x r) : lst16 r = lst16 l := by
  obtain ⟨a, r2, h1, h2⟩ := h.rest hx
  rw [h2.same hr] at h1
  rw [h1, lst16_app hr.ne]
theorem Chn16.used {S : Sv14} (hf : Fine14 S) {i : Nat} {l : List Nat} (h : Chn16 S i l) (hi : us14 usH S.H (i : Int) = true) : ∀ x, x ∈ l → us14 usH S.H (x : Int) = true := by
  induction h with
  | @one i _ =>
    intro x hx
    obtain rfl : x = i := by simpa using hx
    exact hi
  | @step i j l h1 _ ih =>
    intro x hx
    rw [List.mem_cons] at hx
    rcases hx with rfl | hx
    · exact hi
    · refine ih ?_ x hx
      rcases nxt16_used hf (i : Int) with h2 | h2
      · omega
      · rw [h1] at h2
        exact h2.1
/-- One comes from i to whoever stands behind it in its chain. -/
theorem Chn16.way {S : Sv14} (hf : Fine14 S) {i : Nat} {l : List Nat} (h : Chn16 S i l) (hi : i < S.H.length) : ∀ x, x ∈ l ↔ x = i ∨ Way (Ta16 S) i x := by
  have back : ∀ {a b : Nat}, Way (Ta16 S) a b → ∃ j : Nat, nxt16 S (a : Int) = (j : Int) ∧ (j = b ∨ Way (Ta16 S) j b) := by
    intro a b hw
    induction hw with
    | one h1 => exact ⟨_, ((ta16_mem hf).1 h1).2, .inl rfl⟩
    | step _ h1 ih =>
      obtain ⟨j, h2, h3⟩ := ih
      refine ⟨j, h2, .inr ?_⟩
      rcases h3 with rfl | h3
      · exact .one h1
      · exact h3.step h1
  induction h with
  | @one i h1 =>
    intro x
    rw [List.mem_singleton]
    constructor
    · exact .inl
    · rintro (h | h)
      · exact h
      · obtain ⟨j, h2, _⟩ := back h
        omega
  | @step i j l h1 h2 ih =>
    intro x
    have hj : j < S.H.length := by
      rcases nxt16_used hf (i : Int) with h3 | ⟨h3, _⟩
      · omega
      · rw [h1] at h3
        have := ush16_lt h3
        omega
    have ha : (i, j) ∈ Ta16 S := (ta16_mem hf).2 ⟨hi, h1⟩
    rw [List.mem_cons, ih hj x]
    constructor
    · rintro (h | rfl | h)
      · exact .inl h
      · exact .inr (.one ha)
      · exact .inr ((Way.one ha).trans h)
    · rintro (h | h)
      · exact .inl h
      · right
        obtain ⟨j2, h3, h4⟩ := back h
        obtain rfl : j = j2 := by omega
        rcases h4 with h4 | h4
        · exact .inl h4.symm
        · exact .inr h4
theorem in16_ta (S : Sv14) : In13 (Ta16 S) S.H.length := fun _ hp => cut13_lt hp
/-- In a state that may be each thread has a chain. -/
theorem chn16_ex {S : Sv14} (hf : Fine14 S) {i : Nat} (hi : i < S.H.length) : ∃ l, Chn16 S i l := by
  obtain ⟨os, hd, hl⟩ : Free14R S.H.length (tArr14 S S.H.length) := hf.2.2.2.2.2.2.2.2.2
  obtain ⟨D, hD, hn⟩ := dep13_ex (in16_ta S) hd.1 hl
  suffices H : ∀ (m i : Nat), i < S.H.length → S.H.length - D i ≤ m → ∃ l, Chn16 S i l from H _ i hi (Nat.le_refl _)
  intro m
  induction m with
  | zero =>
    intro i hi h0
    rcases nxt16_used hf (i : Int) with h3 | ⟨h3, _⟩
    · exact ⟨[i], .one h3⟩
    · have h5 := ush16_lt h3
      obtain ⟨j, hj⟩ : ∃ j : Nat, nxt16 S (i : Int) = (j : Int) := ⟨(nxt16 S (i : Int)).toNat, by omega⟩
      have h6 := hD.up i j ((ta16_mem hf).2 ⟨hi, hj⟩)
      have h7 := hn j
      omega
  | succ m ih =>
    intro i hi h0
    rcases nxt16_used hf (i : Int) with h3 | ⟨h3, _⟩
    · exact ⟨[i], .one h3⟩
    · have h5 := ush16_lt h3
      obtain ⟨j, hj⟩ : ∃ j : Nat, nxt16 S (i : Int) = (j : Int) := ⟨(nxt16 S (i : Int)).toNat, by omega⟩
      have h6 := hD.up i j ((ta16_mem hf).2 ⟨hi, hj⟩)
      have h7 := hn j
      obtain ⟨l, hl⟩ := ih j (by omega) (by omega)
      exact ⟨i :: l, .step hj hl⟩
/-- It is no longer than there are threads. -/
theorem Chn16.len {S : Sv14} (hf : Fine14 S) {i : Nat} {l : List Nat} (h : Chn16 S i l) (hi : i < S.H.length) : l.length ≤ S.H.length := by
  have hr : ¬ Rng13 (Ta16 S) := free15_ring.1 hf.2.2.2.2.2.2.2.2.2
  have hnd : ∀ {i : Nat} {l : List Nat}, Chn16 S i l → i < S.H.length → l.Nodup ∧ ∀ x, x ∈ l → x < S.H.length := by
    intro i l h
    induction h with
    | one _ => exact fun hi => ⟨by simp, fun x hx => by obtain rfl := List.mem_singleton.1 hx; exact hi⟩
    | @step i j l h1 h2 ih =>
      intro hi
      have ha : (i, j) ∈ Ta16 S := (ta16_mem hf).2 ⟨hi, h1⟩
      have hj := (in16_ta S _ ha).2
      obtain ⟨h3, h4⟩ := ih hj
      refine ⟨List.nodup_cons.2 ⟨fun hm => ?_, h3⟩, fun x hx => ?_⟩
      · rcases (h2.way hf hj i).1 hm with h5 | h5
        · subst h5
          exact hr ⟨i, .one ha⟩
        · exact hr ⟨i, (Way.one ha).trans h5⟩
      · rw [List.mem_cons] at hx
        rcases hx with rfl | hx
        · exact hi
        · exact h4 x hx
  obtain ⟨h1, h2⟩ := hnd h hi
  exact nodup13_len _ l h1 h2
end Go.Proofs.Ytfjpjbgdmebihaa
namespace Go.Proofs.Ytfjpjbgdmebihaa
open Go.RowKit
set_option maxRecDepth 100000
/-- A number's chain: none, if there is no such thread. -/
def Tl16 (S : Sv14) (i : Int) (l : List Nat) : Prop := (us14 usH S.H i = false ∧ l = []) ∨ (us14 usH S.H i = true ∧ ∃ k : Nat, i = (k : Int) ∧ Chn16 S k l)
theorem Tl16.no {S : Sv14} {i : Int} {l : List Nat} (h : Tl16 S i l) (hu : us14 usH S.H i = false) : l = [] := by
  rcases h with h | h
  · exact h.2
  · rw [hu] at h; cases h.1
theorem tl16_neg (S : Sv14) : us14 usH S.H (-1) = false := by
  cases h : us14 usH S.H (-1) with
  | false => rfl
  | true => have := ush16_lt h; omega
theorem tl16_ex {S : Sv14} (hf : Fine14 S) (i : Int) : ∃ l, Tl16 S i l := by
  cases hu : us14 usH S.H i with
  | false => exact ⟨[], .inl ⟨hu, rfl⟩⟩
  | true =>
    have h1 := ush16_lt hu
    obtain ⟨k, rfl⟩ : ∃ k : Nat, i = (k : Int) := ⟨i.toNat, by omega⟩
    obtain ⟨l, hl⟩ := chn16_ex hf (i := k) (by omega)
    exact ⟨l, .inr ⟨hu, k, rfl, hl⟩⟩
theorem Tl16.chn {S : Sv14} {k : Nat} {l : List Nat} (h : Tl16 S (k : Int) l) (hu : us14 usH S.H (k : Int) = true) : Chn16 S k l := by
  rcases h with h | ⟨_, j, h1, h2⟩
  · rw [hu] at h; cases h.1
  · obtain rfl : k = j := by omega
    exact h2
theorem Tl16.same {S : Sv14} {i : Int} {l m : List Nat} (h : Tl16 S i l) (g : Tl16 S i m) : l = m := by
  rcases h with h | ⟨h0, k, rfl, h2⟩
  · rw [h.2, g.no h.1]
  · exact h2.same (g.chn h0)
theorem Tl16.cons {S : Sv14} {i : Int} {l : List Nat} (hf : Fine14 S) (h : Tl16 S i l) (hu : us14 usH S.H i = true) : ∃ (k : Nat) (r : List Nat), i = (k : Int) ∧ l = k :: r ∧ Tl16 S (nxt16 S i) r := by
  rcases h with h | ⟨_, k, rfl, h⟩
  · rw [hu] at h; cases h.1
  · cases h with
    | one h1 => exact ⟨k, [], rfl, rfl, .inl ⟨by rw [h1]; exact tl16_neg S, rfl⟩⟩
    | @step _ j r h1 h2 =>
      refine ⟨k, r, rfl, rfl, .inr ⟨?_, j, h1, h2⟩⟩
      rcases nxt16_used hf (k : Int) with h3 | h3
      · omega
      · exact h3.1
theorem Tl16.len {S : Sv14} {i : Int} {l : List Nat} (hf : Fine14 S) (h : Tl16 S i l) : l.length ≤ S.H.length := by
  rcases h with h | ⟨h0, k, rfl, h2⟩
  · rw [h.2]; simp
  · have := ush16_lt h0
    exact h2.len hf (by omega)
theorem Tl16.used {S : Sv14} {i : Int} {l : List Nat} (hf : Fine14 S) (h : Tl16 S i l) {x : Nat} (hx : x ∈ l) : us14 usH S.H (x : Int) = true := by
  rcases h with h | ⟨h0, k, rfl, h2⟩
  · rw [h.2] at hx; simp at hx
  · exact h2.used hf h0 x hx
theorem Tl16.nil {S : Sv14} {i : Int} {l : List Nat} (h : Tl16 S i l) : l = [] ↔ us14 usH S.H i = false := by
  rcases h with h | ⟨h0, k, rfl, h2⟩
  · exact ⟨fun _ => h.1, fun _ => h.2⟩
  · rw [h0]; exact ⟨fun e => absurd e h2.ne, fun e => by cases e⟩
/-- A chain's end. -/
def en16 (l : List Nat) : Int := if l = [] then -1 else ((lst16 l : Nat) : Int)
theorem Tl16.en {S : Sv14} {i : Int} {l : List Nat} (h : Tl16 S i l) (hu : us14 usH S.H i = true) : en16 l = ((lst16 l : Nat) : Int) ∧ nxt16 S (en16 l) = -1 ∧ lst16 l ∈ l := by
  rcases h with h | ⟨h0, k, rfl, h2⟩
  · rw [hu] at h; cases h.1
  · have e : en16 l = ((lst16 l : Nat) : Int) := if_neg h2.ne
    exact ⟨e, by rw [e]; exact h2.end_.1, h2.end_.2⟩
/-- Can go on: Ready or Running. -/
def lv16 (S : Sv14) (e : Int) : Bool := (at14 usH S.H e).s == 2 || (at14 usH S.H e).s == 3
/-- All behind have its end. -/
theorem Tl16.ends {S : Sv14} {i : Int} {x : Nat} {l r : List Nat} (hf : Fine14 S) (h : Tl16 S i l) (hx : x ∈ l) (hr : Tl16 S (x : Int) r) : en16 r = en16 l := by
  have hu := h.used hf hx
  have c := hr.chn hu
  rcases h with h | ⟨h0, k, rfl, h2⟩
  · rw [h.2] at hx; simp at hx
  · rw [en16, en16, if_neg c.ne, if_neg h2.ne, h2.ends hx c]
/-- Who is behind i (near: waits for i). -/
noncomputable def bhb16 (S : Sv14) (i : Int) (near : Bool) (k : Nat) : Bool := us14 usH S.H i && (if near then decide (nxt16 S (k : Int) = i) else wayb (Ta16 S) k i.toNat)
noncomputable def bh16 (S : Sv14) (i : Int) (near : Bool) : List Nat := all11 (bhb16 S i near) S.H.length
theorem bh16_len (S : Sv14) (i : Int) (near : Bool) : (bh16 S i near).length ≤ S.H.length := all11_len _ _
theorem way16_to {S : Sv14} (hf : Fine14 S) {a b : Nat} (h : Way (Ta16 S) a b) : us14 usH S.H (a : Int) = true ∧ us14 usH S.H (b : Int) = true := by
  have one : ∀ {a b : Nat}, (a, b) ∈ Ta16 S → us14 usH S.H (a : Int) = true ∧ us14 usH S.H (b : Int) = true := by
    intro a b h
    have h1 := ((ta16_mem hf).1 h).2
    rcases nxt16_used hf (a : Int) with h2 | h2
    · omega
    · rw [h1] at h2
      refine ⟨?_, h2.1⟩
      cases hu : us14 usH S.H (a : Int) with
      | true => rfl
      | false => rw [nxt16_no hu] at h1; omega
  induction h with
  | one h => exact one h
  | step _ h ih => exact ⟨ih.1, (one h).2⟩
theorem way16_ring {S : Sv14} (hf : Fine14 S) (a : Nat) : ¬ Way (Ta16 S) a a := fun h => free15_ring.1 hf.2.2.2.2.2.2.2.2.2 ⟨a, h⟩
/-- Behind i are those whose chain has it, and who are not it. -/
theorem bhb16_chain {S : Sv14} (hf : Fine14 S) {i : Int} {k : Nat} {l : List Nat} (h : Tl16 S (k : Int) l) : bhb16 S i false k = true ↔ (k : Int) ≠ i ∧ ∃ x, x ∈ l ∧ i = ((x : Nat) : Int) := by
  rw [bhb16, Bool.and_eq_true, if_neg (by decide), wayb_yes]
  constructor
  · rintro ⟨hu, hw⟩
    have h1 := ush16_lt hu
    obtain ⟨j, rfl⟩ : ∃ j : Nat, i = (j : Int) := ⟨i.toNat, by omega⟩
    rw [Int.toNat_natCast] at hw
    have hk := (way16_to hf hw).1
    have hkl := ush16_lt hk
    refine ⟨fun e => ?_, j, (((h.chn hk).way hf (by omega) j).2 (.inr hw)), rfl⟩
    obtain rfl : k = j := by omega
    exact way16_ring hf k hw
  · rintro ⟨hn, x, hx, rfl⟩
    have hu := h.used hf hx
    refine ⟨hu, ?_⟩
    rw [Int.toNat_natCast]
    have hk : us14 usH S.H (k : Int) = true := by
      cases hk : us14 usH S.H (k : Int) with
      | true => rfl
      | false => rw [h.no hk] at hx; simp at hx
    have hkl := ush16_lt hk
    rcases ((h.chn hk).way hf (by omega) x).1 hx with e | e
    · exact absurd (by rw [e]) hn
    · exact e
theorem bh16_mem {S : Sv14} {i : Int} {near : Bool} {x : Nat} : x ∈ bh16 S i near ↔ x < S.H.length ∧ bhb16 S i near x = true := by
  unfold bh16 all11
  rw [List.mem_filter, List.mem_range]
end Go.Proofs.Ytfjpjbgdmebihaa
namespace Go.Proofs.Ytfjpjbgdmebihaa
open Go.RowKit
set_option maxRecDepth 100000
/-- What a slice of ints that is answered reads as. -/
def RetR15 (w : World) (xs : List Nat) (e : Ending) (w' : World) : Prop := ∃ A c, e = .returned (.slice A xs.length c) ∧ Rd w' w'.heap.size A xs ∧ Below w.heap.size w w'
theorem rd15_own {w : World} {base : Nat} {A : Option Addr} {c n : Nat} {xs : List Nat} (h : w.ownsRow base 3 1 (.slice A n c) n (ints xs)) (hl : xs.length = n) : Rd w w.heap.size A xs := by
  rcases h.2 with ⟨_, h1⟩ | ⟨g, cap, cur, hv, _, _⟩
  · intro hx
    exact absurd (List.eq_nil_of_length_eq_zero (by omega)) hx
  · injection hv with hA hn hc
    subst hA hl
    exact (Ib13.of_own h rfl).rd (fun _ _ => rfl)
end Go.Proofs.Ytfjpjbgdmebihaa
namespace Go.Proofs.Ytfjpjbgdmebihaa
open Go.RowKit
set_option maxRecDepth 100000
/-- Between two rounds: a boxed state, and a row of ints from block L on. -/
structure Ti15 (w : World) (L : Nat) (S : Sv14) (A0 A1 A2 A3 A4 : Option Addr) (n0 n1 n2 n3 n4 c0 c1 c2 c3 c4 : Nat) (sq : Int) (A : Option Addr) (m c : Nat) (xs : List Nat) (W : World) : Prop where
  b : Bx14 w S A0 A1 A2 A3 A4 n0 n1 n2 n3 n4 c0 c1 c2 c3 c4 sq W
  o : W.ownsRow L 3 1 (.slice A m c) m (ints xs)
  l : xs.length = m
  h : w.heap.size < L
  t : L ≤ W.heap.size
  s : SA14 w S A0 A1 A2 A3 A4 n0 n1 n2 n3 n4 c0 c1 c2 c3 c4 sq
theorem Ti15.step {w : World} {L : Nat} {S : Sv14} {A0 A1 A2 A3 A4 : Option Addr} {n0 n1 n2 n3 n4 c0 c1 c2 c3 c4 : Nat} {sq : Int} {A : Option Addr} {m c : Nat} {xs : List Nat} {W W' : World} (h : Ti15 w L S A0 A1 A2 A3 A4 n0 n1 n2 n3 n4 c0 c1 c2 c3 c4 sq A m c xs W) (hb : Below W.heap.size W W') : Ti15 w L S A0 A1 A2 A3 A4 n0 n1 n2 n3 n4 c0 c1 c2 c3 c4 sq A m c xs W' :=
  ⟨h.b.step hb, own7_keep h.o hb, h.l, h.h, Nat.le_trans h.t hb.size, h.s⟩
theorem Ti15.congr {w : World} {L : Nat} {S : Sv14} {A0 A1 A2 A3 A4 : Option Addr} {n0 n1 n2 n3 n4 c0 c1 c2 c3 c4 : Nat} {sq : Int} {A : Option Addr} {m c : Nat} {xs ys : List Nat} {W : World} (h : Ti15 w L S A0 A1 A2 A3 A4 n0 n1 n2 n3 n4 c0 c1 c2 c3 c4 sq A m c xs W) (e : xs = ys) : Ti15 w L S A0 A1 A2 A3 A4 n0 n1 n2 n3 n4 c0 c1 c2 c3 c4 sq A m c ys W := e ▸ h
theorem Ti15.start {w : World} {L : Nat} {S : Sv14} {A0 A1 A2 A3 A4 : Option Addr} {n0 n1 n2 n3 n4 c0 c1 c2 c3 c4 : Nat} {sq : Int} {W : World} (hs : SA14 w S A0 A1 A2 A3 A4 n0 n1 n2 n3 n4 c0 c1 c2 c3 c4 sq) (h : Bx14 w S A0 A1 A2 A3 A4 n0 n1 n2 n3 n4 c0 c1 c2 c3 c4 sq W) (hL : w.heap.size < L) (hW : L ≤ W.heap.size) : Ti15 w L S A0 A1 A2 A3 A4 n0 n1 n2 n3 n4 c0 c1 c2 c3 c4 sq none 0 0 [] W := ⟨h, World.ownsRow_nil _ _ _ _, rfl, hL, hW, hs⟩
theorem Ti15.rd {w : World} {L : Nat} {S : Sv14} {A0 A1 A2 A3 A4 : Option Addr} {n0 n1 n2 n3 n4 c0 c1 c2 c3 c4 : Nat} {sq : Int} {A : Option Addr} {m c : Nat} {xs : List Nat} {W : World} (h : Ti15 w L S A0 A1 A2 A3 A4 n0 n1 n2 n3 n4 c0 c1 c2 c3 c4 sq A m c xs W) : Rd W W.heap.size A xs := rd15_own h.o h.l
/-- A number is appended. -/
theorem Ti15.push {w : World} {L : Nat} {S : Sv14} {A0 A1 A2 A3 A4 : Option Addr} {n0 n1 n2 n3 n4 c0 c1 c2 c3 c4 : Nat} {sq : Int} {A : Option Addr} {m c : Nat} {xs : List Nat} {W : World} (h : Ti15 w L S A0 A1 A2 A3 A4 n0 n1 n2 n3 n4 c0 c1 c2 c3 c4 sq A m c xs W) (x : Nat) (hm : m ≤ 5000) :
    ∃ Az cz W2, (Builtin.append_ #[26, 26] 26 #[.slice A m c, .slice (some ⟨W.heap.size, 0, none⟩) 1 1]).run Try.prog (W.alloc (.cells #[.int .i64 (x : Int)] 3)) = .ok (.slice Az (m + 1) cz) W2 ∧ Ti15 w L S A0 A1 A2 A3 A4 n0 n1 n2 n3 n4 c0 c1 c2 c3 c4 sq Az (m + 1) cz (xs ++ [x]) W2 ∧ Below L W W2 := by
  have hbz := b1' W (.cells #[.int .i64 (x : Int)] 3)
  have hkz := Blk.new W 3 #[.int .i64 (x : Int)]
  have h1 := h.step hbz
  have hsy : (W.alloc (.cells #[.int .i64 (x : Int)] 3)).heap.size = W.heap.size + 1 := by simp
  obtain ⟨Y, hY⟩ : ∃ Y, W.alloc (.cells #[.int .i64 (x : Int)] 3) = Y := ⟨_, rfl⟩
  rw [hY] at hbz hkz h1 hsy ⊢
  have hrv : Rv Y Y.heap.size (some ⟨W.heap.size, 0, none⟩) [.int .i64 (x : Int)] := fun _ => ⟨W.heap.size, 0, rfl, by omega, fun j v hj => by rw [Nat.zero_add, hkz.cell]; simpa using hj⟩
  obtain ⟨Az, cz, W2, hrun, hown, hg⟩ := run_append_14 (P := Try.prog) Y L 26 26 3 _ 1 8 Try.underlying26 info_int11 rfl (by omega) (by omega) _ m _ h1.o Y.heap.size (some ⟨W.heap.size, 0, none⟩) [.int .i64 (x : Int)] 1 1 rfl hrv (by simp [Value.oneCell']) (by omega) h1.t
  have ht := h.t
  have hlt := h.h
  have hY2 : Below L Y W2 := (Below.refl L Y).grown hg h1.t (fun r hr => (h1.o.lt r hr).1)
  have hW2 : Below L W W2 := (hbz.mono ht).trans hY2
  have hB : Below w.heap.size w W2 := h.b.b.trans (hW2.mono (by omega))
  refine ⟨Az, cz, W2, hrun, ⟨⟨hB, h.b.x.below hW2 hlt, h.s.step hB⟩, ?_, by simp [h.l], hlt, by have := hW2.size; omega, h.s⟩, hW2⟩
  rw [ints_append]
  exact hown
end Go.Proofs.Ytfjpjbgdmebihaa
namespace Go.Proofs.Ytfjpjbgdmebihaa
open Go.RowKit
set_option maxRecDepth 100000
set_option maxHeartbeats 4000000 in
theorem idx16 (A : Option Addr) (xs : List Nat) (n c B : Nat) (i : Int) (w : World) (hl : xs.length = n) (hr : Rd w B A xs) (hn : n ≤ 1000000) (hB : B ≤ w.heap.size) :
    Calls Try.prog 45 #[.slice A n c, .int .i64 i] w fun e w' => ∃ r : Int, e = .returned (.int .i64 r) ∧ (0 ≤ r ∧ (∃ x, x ∈ xs ∧ i = ((x : Nat) : Int)) ∨ r = -1 ∧ ∀ x, x ∈ xs → i ≠ ((x : Nat) : Int)) ∧ Below w.heap.size w w' := by
  have HL := Lib.hid hl
  have HR := Lib.hid hr
  clear hl hr
  go_enter Try.func45, Try.ntmps45
  go_wp2_with fail
  go_loopw [8] (fun v wr => ∃ k : Nat, v = .int .i64 (k : Int) ∧ k ≤ n ∧ Hid (∀ j, j < k → i ≠ ((nth xs j : Nat) : Int)) ∧ Hid (Below w.heap.size w wr)) (fun v _ => n - (intOf v).toNat)
  case atStart => exact ⟨0, rfl, by omega, Lib.hid (fun j h => by omega), Lib.hid (Below.refl _ _)⟩
  case round =>
    obtain ⟨k, rfl, hk, HN, HG⟩ := hrel
    by_cases hkn : k < n
    · obtain ⟨g, o, hA, hab, q0⟩ := (HR.out.below HG.out hB).at_ (show k < xs.length by have := HL.out; omega)
      subst hA
      obtain ⟨x, hx⟩ : ∃ x, nth xs k = x := ⟨_, rfl⟩
      rw [hx] at q0
      have HX := Lib.hid hx
      have i0 : (0 : Int) ≤ (k : Int) := by omega
      have i1 : (k : Int) < (n : Int) := by omega
      clear hx hab
      by_cases hi : i = (x : Int)
      · have hib : (i == (x : Int)) = true := by simp [hi]
        have HI := Lib.hid hi
        clear hi
        go_wp2_with fail
        go_ret
        exact ⟨(k : Int), rfl, .inl ⟨i0, x, by rw [← HX.out, nth_in (by have := HL.out; omega)]; exact List.getElem_mem _, HI.out⟩, HG.out⟩
      · have hib : (i == (x : Int)) = false := by simp [hi]
        have HI := Lib.hid hi
        clear hi
        go_wp2_with fail
        go_roundw
        case rel => exact ⟨k + 1, by go_num, by omega, Lib.hid (fun j hj => by
          rcases (show j < k ∨ j = k by omega) with h5 | h5
          · exact HN.out j h5
          · rw [h5, HX.out]; exact HI.out), HG⟩
        case measure => simp [intOf]; omega
    · obtain rfl : k = n := by omega
      have i1 : ¬ (k : Int) < (k : Int) := by omega
      go_wp2_with fail
      go_ret
      refine ⟨-1, rfl, .inr ⟨rfl, fun x hx => ?_⟩, HG.out⟩
      obtain ⟨j, hj, rfl⟩ := List.getElem_of_mem hx
      rw [← nth_in hj]
      exact HN.out j (by have := HL.out; omega)
set_option maxHeartbeats 2000000 in
theorem cont16 (A : Option Addr) (xs : List Nat) (n c B : Nat) (i : Int) (w : World) (hl : xs.length = n) (hr : Rd w B A xs) (hn : n ≤ 1000000) (hB : B ≤ w.heap.size) (b : Bool) (hb : b = true ↔ ∃ x, x ∈ xs ∧ i = ((x : Nat) : Int)) :
    Calls Try.prog 32 #[.slice A n c, .int .i64 i] w fun e w' => e = .returned (.bool b) ∧ Below w.heap.size w w' := by
  have HI := Lib.hid (idx16 A xs n c B i w hl hr hn hB)
  have HB := Lib.hid hb
  clear hl hr hb
  go_enter Try.func32, Try.ntmps32
  go_wp2_with fail
  refine HI.out.mono ?_
  rintro e w1 ⟨r, rfl, hf, hb1⟩
  clear HI
  rcases hf with ⟨h0, h2⟩ | ⟨rfl, h2⟩
  · obtain rfl : b = true := HB.out.2 h2
    clear h2
    go_wp2_with fail
    go_ret
    exact ⟨rfl, hb1⟩
  · obtain rfl : b = false := by
      cases hbb : b with
      | false => rfl
      | true =>
        obtain ⟨x, h3, h4⟩ := HB.out.1 hbb
        exact absurd h4 (h2 x h3)
    clear h2
    go_wp2_with fail
    go_ret
    exact ⟨rfl, hb1⟩
set_option maxHeartbeats 2000000 in
theorem used16 (v : Value) (S : Sv14) (i : Int) (b : Bool) (w : World) (h : St14 w v S) (hb : us14 usH S.H i = b) :
    Calls Try.prog 31 #[v, .int .i64 i] w fun e w' => e = .returned (.bool b) ∧ Below w.heap.size w w' := by
  obtain ⟨A0, A1, A2, A3, A4, n0, n1, n2, n3, n4, c0, c1, c2, c3, c4, sq, rfl, hs⟩ := h
  have hx0 := Bx14.new hs
  have hxn := hx0.step (Below.refl _ _).drew
  obtain ⟨W1, hW1⟩ : ∃ W, w.alloc (.cells #[.slice A0 n0 c0, .slice A1 n1 c1, .slice A2 n2 c2, .slice A3 n3 c3, .slice A4 n4 c4, .int .i64 sq] 28) = W := ⟨_, rfl⟩
  rw [hW1] at hx0 hxn
  obtain ⟨x, hx⟩ : ∃ x, at14 usH S.H i = x := ⟨_, rfl⟩
  obtain ⟨xz, xf, xc, xq, xu⟩ := x
  have HX0 := Lib.hid hx0
  have p0 := hx0.x.cell 0
  have p1 := hx0.x.cell 1
  have p2 := hx0.x.cell 2
  have p3 := hx0.x.cell 3
  have p4 := hx0.x.cell 4
  have p5 := hx0.x.cell 5
  have HT := Lib.hid (fun W h => thread14 (.agg #[.slice A0 n0 c0, .slice A1 n1 c1, .slice A2 n2 c2, .slice A3 n3 c3, .slice A4 n4 c4, .int .i64 sq]) S i xz xf xc xq xu b W h hb hx)
  clear hs hx0 hxn hb hx
  go_enter Try.func31, Try.ntmps31
  go_wp2_with fail
  refine (HT.out _ HX0.out.st).mono ?_
  rintro e u1 ⟨rfl, hb1⟩
  have HB1 := Lib.hid (HX0.out.b.trans (hb1.mono HX0.out.b.size))
  clear hb1 HT HX0 p0 p1 p2 p3 p4 p5 hW1
  go_wp2_with fail
  go_ret
  exact ⟨rfl, HB1.out.trans ((b1' _ _).mono HB1.out.size)⟩
set_option maxHeartbeats 4000000 in
theorem next16 (v : Value) (S : Sv14) (i : Int) (w : World) (h : St14 w v S) :
    Calls Try.prog 9 #[v, .int .i64 i] w fun e w' => e = .returned (.int .i64 (nxt16 S i)) ∧ Below w.heap.size w w' := by
  obtain ⟨A0, A1, A2, A3, A4, n0, n1, n2, n3, n4, c0, c1, c2, c3, c4, sq, rfl, hs⟩ := h
  have hx0 := Bx14.new hs
  have hxn := hx0.step (Below.refl _ _).drew
  obtain ⟨W1, hW1⟩ : ∃ W, w.alloc (.cells #[.slice A0 n0 c0, .slice A1 n1 c1, .slice A2 n2 c2, .slice A3 n3 c3, .slice A4 n4 c4, .int .i64 sq] 28) = W := ⟨_, rfl⟩
  rw [hW1] at hx0 hxn
  obtain ⟨x, hx⟩ : ∃ x, at14 usH S.H i = x := ⟨_, rfl⟩
  obtain ⟨xz, xf, xc, xq, xu⟩ := x
  obtain ⟨b, hb⟩ : ∃ b, us14 usH S.H i = b := ⟨_, rfl⟩
  obtain ⟨y, hy⟩ : ∃ y, at14 usL S.L xf = y := ⟨_, rfl⟩
  obtain ⟨yu, yh⟩ := y
  obtain ⟨c, hc⟩ : ∃ c, us14 usL S.L xf = c := ⟨_, rfl⟩
  have HN : Hid (nxt16 S i = if xz = 4 then xf else if xz = 6 then yh else -1) := Lib.hid (by rw [nxt16, hx, hy])
  have HX0 := Lib.hid hx0
  have p0 := hx0.x.cell 0
  have p1 := hx0.x.cell 1
  have p2 := hx0.x.cell 2
  have p3 := hx0.x.cell 3
  have p4 := hx0.x.cell 4
  have p5 := hx0.x.cell 5
  have HT := Lib.hid (fun W h => thread14 (.agg #[.slice A0 n0 c0, .slice A1 n1 c1, .slice A2 n2 c2, .slice A3 n3 c3, .slice A4 n4 c4, .int .i64 sq]) S i xz xf xc xq xu b W h hb hx)
  have HK := Lib.hid (fun W h => lock14 (.agg #[.slice A0 n0 c0, .slice A1 n1 c1, .slice A2 n2 c2, .slice A3 n3 c3, .slice A4 n4 c4, .int .i64 sq]) S xf yu yh c W h hc hy)
  clear hs hx0 hxn hb hx hc hy
  go_enter Try.func9, Try.ntmps9
  go_wp2_with fail
  refine (HT.out _ HX0.out.st).mono ?_
  rintro e u1 ⟨rfl, hb1⟩
  have HX1 := Lib.hid ((HX0.out.step hb1).step (b1' u1 (.cells #[.int .i64 xz, .int .i64 xf, .int .i64 xc, .int .i64 xq, .int .i64 xu] 38)))
  have hk1 := Blk.new u1 38 #[.int .i64 xz, .int .i64 xf, .int .i64 xc, .int .i64 xq, .int .i64 xu]
  obtain ⟨g1, hg1⟩ : ∃ g, u1.heap.size = g := ⟨_, rfl⟩
  have c0 := hk1.cell 0
  have c1 := hk1.cell 1
  have q0 := HX1.out.x.cell 0
  have q1 := HX1.out.x.cell 1
  have q2 := HX1.out.x.cell 2
  have q3 := HX1.out.x.cell 3
  have q4 := HX1.out.x.cell 4
  have q5 := HX1.out.x.cell 5
  clear hb1 hk1 HT HX0 p0 p1 p2 p3 p4 p5 hW1
  by_cases z4 : xz = 4
  · subst z4
    have HE : Hid (nxt16 S i = xf) := Lib.hid (by rw [HN.out, if_pos rfl])
    go_wp2_with fail
    go_ret
    exact ⟨by rw [HE.out]; rfl, HX1.out.b⟩
  · have z4b : (xz == 4) = false := by simp [z4]
    by_cases z6 : xz = 6
    · subst z6
      have HE : Hid (nxt16 S i = yh) := Lib.hid (by rw [HN.out, if_neg (by decide), if_pos rfl])
      go_wp2_with fail
      refine (HK.out _ HX1.out.st).mono ?_
      rintro e u2 ⟨rfl, hb2⟩
      have hk2 := Blk.new u2 45 #[.bool yu, .int .i64 yh]
      have d1 := hk2.cell 1
      have HB2 := Lib.hid (HX1.out.b.trans (hb2.mono HX1.out.b.size))
      clear hk2 hb2 HK HX1 q0 q1 q2 q3 q4 q5 c0 c1
      go_wp2_with fail
      go_ret
      exact ⟨by rw [HE.out]; rfl, HB2.out.trans ((b1' _ _).mono HB2.out.size)⟩
    · have z6b : (xz == 6) = false := by simp [z6]
      have HE : Hid (nxt16 S i = -1) := Lib.hid (by rw [HN.out, if_neg z4, if_neg z6])
      go_wp2_with fail
      go_ret
      exact ⟨by rw [HE.out]; rfl, HX1.out.b⟩
set_option maxHeartbeats 8000000 in
theorem tail16 (v : Value) (S : Sv14) (i : Int) (l : List Nat) (w : World) (h : St14 w v S) (hf : Fine14 S) (hl : Tl16 S i l) :
    Calls Try.prog 12 #[v, .int .i64 i] w (RetR15 w l) := by
  obtain ⟨A0, A1, A2, A3, A4, n0, n1, n2, n3, n4, c0, c1, c2, c3, c4, sq, rfl, hs⟩ := h
  have HP : Hid (RetR15 w l = fun e w' => ∃ A c, e = .returned (.slice A l.length c) ∧ Rd w' w'.heap.size A l ∧ Below w.heap.size w w') := Lib.hid rfl
  have HX0 : Hid (Ti15 w (w.heap.size + 1) S A0 A1 A2 A3 A4 n0 n1 n2 n3 n4 c0 c1 c2 c3 c4 sq none 0 0 [] (w.alloc (.cells #[.slice A0 n0 c0, .slice A1 n1 c1, .slice A2 n2 c2, .slice A3 n3 c3, .slice A4 n4 c4, .int .i64 sq] 28))) := Lib.hid (Ti15.start hs (Bx14.new hs) (by omega) (by simp))
  have HL2 := Lib.hid hs.l2
  have hm2 := hs.m2
  have HLN : Hid (l.length ≤ n2) := Lib.hid (by have := hl.len hf; rw [hs.l2] at this; exact this)
  have HF := Lib.hid hf
  have HI := Lib.hid hl
  have HU := Lib.hid (fun W j b (h : Bx14 w S A0 A1 A2 A3 A4 n0 n1 n2 n3 n4 c0 c1 c2 c3 c4 sq W) hb => used16 (.agg #[.slice A0 n0 c0, .slice A1 n1 c1, .slice A2 n2 c2, .slice A3 n3 c3, .slice A4 n4 c4, .int .i64 sq]) S j b W h.st hb)
  have HN := Lib.hid (fun W j (h : Bx14 w S A0 A1 A2 A3 A4 n0 n1 n2 n3 n4 c0 c1 c2 c3 c4 sq W) => next16 (.agg #[.slice A0 n0 c0, .slice A1 n1 c1, .slice A2 n2 c2, .slice A3 n3 c3, .slice A4 n4 c4, .int .i64 sq]) S j W h.st)
  clear hs hf hl
  go_enter Try.func12, Try.ntmps12
  go_wp2_with fail
  go_loopg [1, 4] (n2 + 1) (fun kx iv ov wr => ∃ (j : Int) (r p : List Nat) (A : Option Addr) (m c : Nat), iv = .int .i64 j ∧ ov = .slice A m c ∧ m + kx = n2 + 1 ∧ m ≤ n2 ∧ Hid (Tl16 S j r) ∧ Hid (p ++ r = l) ∧ Hid (Ti15 w (w.heap.size + 1) S A0 A1 A2 A3 A4 n0 n1 n2 n3 n4 c0 c1 c2 c3 c4 sq A m c p wr))
  case atStart => exact ⟨i, l, [], none, 0, 0, rfl, rfl, by omega, by omega, HI, Lib.hid rfl, HX0⟩
  case round =>
    clear HX0 HI
    obtain ⟨j, r, p, A, m, c, rfl, rfl, hm, hmn, HI, HA, HW⟩ := hrel
    have p0 := HW.out.b.x.cell 0
    have p1 := HW.out.b.x.cell 1
    have p2 := HW.out.b.x.cell 2
    have p3 := HW.out.b.x.cell 3
    have p4 := HW.out.b.x.cell 4
    have p5 := HW.out.b.x.cell 5
    cases hu : us14 usH S.H j with
    | false =>
      have hc := HU.out wr j false HW.out.b hu
      have HE : Hid (p = l) := Lib.hid (by rw [← HA.out, HI.out.no hu, List.append_nil])
      have HCU := Lib.hid hc
      clear hc hu
      go_wp2_with fail
      refine HCU.out.mono ?_
      rintro e u1 ⟨rfl, hb1⟩
      have HW1 := Lib.hid (HW.out.step (hb1))
      clear hb1 HCU
      go_wp2_with fail
      go_ret
      rw [HP.out]
      exact ⟨A, c, by rw [← HW1.out.l, HE.out]; rfl, by rw [← HE.out]; exact HW1.out.rd, HW1.out.b.b⟩
    | true =>
      obtain ⟨k, r2, hk, hr, ht⟩ := HI.out.cons HF.out hu
      subst hk hr
      have hc := HU.out wr (k : Int) true HW.out.b hu
      have HCU := Lib.hid hc
      have HT := Lib.hid ht
      have hlt : m < n2 := by
        have h1 := HLN.out
        have h2 := HW.out.l
        rw [← HA.out, List.length_append, List.length_cons] at h1
        omega
      have hltI : (m : Int) < (n2 : Int) := by omega
      have HCN := Lib.hid (fun W h => HN.out W (k : Int) h)
      clear hc hu ht
      go_wp2_with fail
      refine HCU.out.mono ?_
      rintro e u1 ⟨rfl, hb1⟩
      have HW1 := Lib.hid (HW.out.step (hb1))
      have q0 := HW1.out.b.x.cell 0
      have q1 := HW1.out.b.x.cell 1
      have q2 := HW1.out.b.x.cell 2
      have q3 := HW1.out.b.x.cell 3
      have q4 := HW1.out.b.x.cell 4
      have q5 := HW1.out.b.x.cell 5
      obtain ⟨Az, cz, W2, hrun, hti, hbl⟩ := HW1.out.push k (by omega)
      have HRUN := Lib.hid hrun
      have HW2 := Lib.hid hti
      have y0 := HW2.out.b.x.cell 0
      have y1 := HW2.out.b.x.cell 1
      have y2 := HW2.out.b.x.cell 2
      have y3 := HW2.out.b.x.cell 3
      have y4 := HW2.out.b.x.cell 4
      have y5 := HW2.out.b.x.cell 5
      clear hb1 HCU hrun hti hbl
      go_wp2_with (at_builtin; go_loud (refine wpList_append_14 _ rfl (.tmp 16) (.tmp 18) 26 rfl _ _ _ _ rfl rfl HRUN.out ?_))
      refine (HCN.out _ HW2.out.b).mono ?_
      rintro e u3 ⟨rfl, hb3⟩
      have HW3 := Lib.hid (HW2.out.step hb3)
      clear hb3
      go_wp2_with fail
      go_roundg (n2 + 1 - (m + 1))
      case measure => omega
      case rel => exact ⟨nxt16 S (k : Int), r2, p ++ [k], Az, m + 1, cz, rfl, rfl, by omega, by omega, HT, Lib.hid (by rw [← HA.out]; simp), HW3⟩
end Go.Proofs.Ytfjpjbgdmebihaa
