/-
  SaidFundTells, part 7 of 15: what the theorem fundTells_holds reaches.
-/
import Derived.Test.YtljpgfnjaagkaaaFT6
import Derived.RangeFuncCalls
import Derived.Sort.OwnSortedInts
namespace Go.Proofs.Ytljpgfnjaagkaaa
open Go.RowKit
set_option maxRecDepth 100000
/-- The first p arrows are kept: whoever they lead to from a, or from one that is marked, is marked. -/
def Cl13 (l : List (Int × Int)) (n : Nat) (a : Int) (m : Nat → Bool) (p : Nat) : Prop :=
  ∀ q, q < p → ∀ x y : Nat, arr l q = ((x : Int), (y : Int)) → x < n → y < n → ((x : Int) = a ∨ m x = true) → m y = true
theorem Cl13.next {l : List (Int × Int)} {n p : Nat} {a : Int} {m : Nat → Bool} (h : Cl13 l n a m p) (hp : ∀ x y : Nat, arr l p = ((x : Int), (y : Int)) → x < n → y < n → ((x : Int) = a ∨ m x = true) → m y = true) : Cl13 l n a m (p + 1) := by
  intro q hq
  rcases (show q < p ∨ q = p by omega) with h1 | rfl
  · exact h q h1
  · exact hp
theorem arr_mem {l : List (Int × Int)} {n x y : Nat} (h : (x, y) ∈ cut13 n l) : ∃ q, q < l.length ∧ arr l q = ((x : Int), (y : Int)) := by
  obtain ⟨q, hq, he⟩ := List.getElem_of_mem (cut13_mem.1 h).1
  exact ⟨q, hq, by simp [arr, List.getElem?_eq_getElem hq, he]⟩
theorem arr_in {l : List (Int × Int)} {n x y q : Nat} (hq : q < l.length) (h : arr l q = ((x : Int), (y : Int))) (hx : x < n) (hy : y < n) : (x, y) ∈ cut13 n l := by
  refine cut13_mem.2 ⟨?_, hx, hy⟩
  rw [← h]
  have : arr l q = l[q] := by simp [arr, List.getElem?_eq_getElem hq]
  rw [this]
  exact List.getElem_mem hq
theorem Cl13.end_ {l : List (Int × Int)} {n b : Nat} {m : Nat → Bool} (h : Cl13 l n (b : Int) m l.length) (hs : ∀ x, m x = true → ∃ b' : Nat, (b : Int) = (b' : Int) ∧ Way (cut13 n l) b' x) : ∀ y, m y = wayb (cut13 n l) b y :=
  mark13 (fun x hx => by
    obtain ⟨b', h1, h2⟩ := hs x hx
    obtain rfl : b' = b := by omega
    exact h2) (fun x y hx hxy => by
    obtain ⟨q, hq, he⟩ := arr_mem hxy
    obtain ⟨h1, h2⟩ := cut13_lt hxy
    exact h q hq x y he h1 h2 (hx.imp (fun e => by rw [e]) id))
theorem Bb13.step {w w' : World} {g n : Nat} {m : Nat → Bool} (q : Bb13 w g n m) (hb : Below w.heap.size w w') : Bb13 w' g n m := by
  obtain ⟨cs, h1, h2⟩ := q
  exact ⟨cs, h1.below hb h1.lt, h2⟩
theorem made_b13 (W : World) (n : Nat) : Bb13 (W.alloc (.cells (madeCells #[.bool false] n) 4)) W.heap.size n (fun _ => false) := made13 W 4 n (.bool false)
def bn13 (b : Bool) : Nat := if b then 1 else 0
/-- What the document's Reach says. -/
def RetR13 (w : World) (n : Nat) (l : List (Int × Int)) (a : Int) (e : Ending) (w' : World) : Prop :=
  ∃ g T, e = .returned (.slice (some ⟨g, 0, none⟩) n n) ∧ Rv w' w'.heap.size (some ⟨g, 0, none⟩) (bls T n) ∧ (∀ b : Nat, a = (b : Int) → ∀ y, T y = wayb (cut13 n l) b y) ∧ Below w.heap.size w w'
set_option maxHeartbeats 8000000 in
theorem rreach13_any (n : Nat) (Ad : Option Addr) (l : List (Int × Int)) (m c : Nat) (a : Int) (w : World) (hl : l.length = m) (hr : Aq w w.heap.size Ad l) (hm : m ≤ 1000000) (hn : n ≤ 1000000) :
    Calls Try.prog 31 #[.int .i64 (n : Int), .slice Ad m c, .int .i64 a] w (RetR13 w n l a) := by
  have HP : Hid (RetR13 w n l a = fun e w' => ∃ g T, e = .returned (.slice (some ⟨g, 0, none⟩) n n) ∧ Rv w' w'.heap.size (some ⟨g, 0, none⟩) (bls T n) ∧ (∀ b : Nat, a = (b : Int) → ∀ y, T y = wayb (cut13 n l) b y) ∧ Below w.heap.size w w') := Lib.hid rfl
  have HR := Lib.hid hr
  have HL := Lib.hid hl
  have hmk := make_bools13 n hn
  have HM0 := Lib.hid (made_b13 w n)
  have HB0 := Lib.hid (b1' w (.cells (madeCells #[.bool false] n) 4))
  have hun0 := un13_le (fun _ => false) n
  clear hr hl
  go_enter Try.func31, Try.ntmps31
  go_wp2_with fail
  clear hmk
  go_loopg [8] (n + 2) (fun kx v wr => ∃ (K : Nat) (mk : Nat → Bool) (ag : Bool), K = kx ∧ v = .bool ag ∧ un13 mk n + bn13 ag ≤ K ∧ Hid (Bb13 wr w.heap.size n mk) ∧ Hid (∀ x, mk x = true → ∃ b : Nat, a = (b : Int) ∧ Way (cut13 n l) b x) ∧ Hid (ag = false → Cl13 l n a mk m) ∧ Hid (Below w.heap.size w wr))
  case atStart => exact ⟨n + 2, _, true, rfl, rfl, by simp only [bn13, if_true]; omega, HM0, Lib.hid (fun x h => by cases h), Lib.hid (fun h => by cases h), HB0⟩
  case round =>
    clear HM0 HB0 hun0
    obtain ⟨K, mk, ag, rfl, rfl, hme, HM, HS, HC, HB⟩ := hrel
    cases ag with
    | false =>
      have HRV := Lib.hid (HM.out.rv (T := mk) (fun _ => rfl))
      have HCL := Lib.hid (HC.out rfl)
      go_wp2_with fail
      go_ret
      rw [HP.out]
      refine ⟨w.heap.size, mk, rfl, HRV.out, fun b hb => ?_, HB.out⟩
      subst hb
      have h1 := HCL.out
      have h2 := HL.out
      rw [← h2] at h1
      exact h1.end_ HS.out
    | true =>
      have hme2 : un13 mk n + 1 ≤ K := hme
      clear hme HC
      go_wp2_with fail
      go_loopw [8, 9] (fun v iv wi => ∃ (p : Nat) (mk2 : Nat → Bool) (ag : Bool), v = .bool ag ∧ iv = .int .i64 (p : Int) ∧ p ≤ m ∧ un13 mk2 n + bn13 ag + 1 ≤ K ∧ Hid (Bb13 wi w.heap.size n mk2) ∧ Hid (∀ x, mk2 x = true → ∃ b : Nat, a = (b : Int) ∧ Way (cut13 n l) b x) ∧ Hid (ag = false → Cl13 l n a mk2 p) ∧ Hid (Below w.heap.size w wi)) (fun _ iv _ => m - (intOf iv).toNat)
      case atStart => exact ⟨0, mk, false, rfl, rfl, by omega, by simp [bn13]; omega, HM, HS, Lib.hid (fun _ q hq => by omega), HB⟩
      case round =>
        clear HM HS HB hme2
        obtain ⟨p, mk2, ag, rfl, rfl, hp, hme, HM, HS, HC, HB⟩ := hrel
        by_cases hpm : p < m
        · have hpl : p < l.length := by have := HL.out; omega
          obtain ⟨ba, o, hA, _, c0, c1⟩ := Aq.at_ (Rv.below HR.out HB.out (Nat.le_refl _)) hpl
          subst hA
          obtain ⟨fi, hfi⟩ : ∃ x, (arr l p).1 = x := ⟨_, rfl⟩
          obtain ⟨ti, hti⟩ : ∃ x, (arr l p).2 = x := ⟨_, rfl⟩
          rw [hfi] at c0
          rw [hti] at c1
          have HAR : Hid (arr l p = (fi, ti)) := Lib.hid (by rw [← hfi, ← hti])
          have hb1 := b1' wr (.cells #[.int .i64 fi, .int .i64 ti] 68)
          have hbk := Blk.new wr 68 #[.int .i64 fi, .int .i64 ti]
          have x0 := hbk.cell 0
          have x1 := hbk.cell 1
          have HM1 := Lib.hid (HM.out.step hb1)
          have HB1 := Lib.hid (HB.out.trans (hb1.mono HB.out.size))
          have i0 : (0 : Int) ≤ (p : Int) := by omega
          have i1 : (p : Int) < (m : Int) := by omega
          clear hfi hti hb1 hbk
          by_cases hf0 : fi < 0
          · have HC1 : Hid (ag = false → Cl13 l n a mk2 (p + 1)) := Lib.hid (fun h => (HC.out h).next (fun x y he hx hy hh => by
              rw [HAR.out] at he
              injection he with h1 h2
              omega))
            go_wp2_with fail
            go_roundw
            case rel => exact ⟨p + 1, mk2, ag, rfl, by go_num, by omega, hme, HM1, HS, HC1, HB1⟩
            case measure => simp [intOf]; omega
          · by_cases hfn : (n : Int) ≤ fi
            · have HC1 : Hid (ag = false → Cl13 l n a mk2 (p + 1)) := Lib.hid (fun h => (HC.out h).next (fun x y he hx hy hh => by
                rw [HAR.out] at he
                injection he with h1 h2
                omega))
              go_wp2_with fail
              go_roundw
              case rel => exact ⟨p + 1, mk2, ag, rfl, by go_num, by omega, hme, HM1, HS, HC1, HB1⟩
              case measure => simp [intOf]; omega
            · by_cases ht0 : ti < 0
              · have HC1 : Hid (ag = false → Cl13 l n a mk2 (p + 1)) := Lib.hid (fun h => (HC.out h).next (fun x y he hx hy hh => by
                  rw [HAR.out] at he
                  injection he with h1 h2
                  omega))
                go_wp2_with fail
                go_roundw
                case rel => exact ⟨p + 1, mk2, ag, rfl, by go_num, by omega, hme, HM1, HS, HC1, HB1⟩
                case measure => simp [intOf]; omega
              · by_cases htn : (n : Int) ≤ ti
                · have HC1 : Hid (ag = false → Cl13 l n a mk2 (p + 1)) := Lib.hid (fun h => (HC.out h).next (fun x y he hx hy hh => by
                    rw [HAR.out] at he
                    injection he with h1 h2
                    omega))
                  go_wp2_with fail
                  go_roundw
                  case rel => exact ⟨p + 1, mk2, ag, rfl, by go_num, by omega, hme, HM1, HS, HC1, HB1⟩
                  case measure => simp [intOf]; omega
                · obtain ⟨f, rfl⟩ : ∃ f : Nat, fi = (f : Int) := ⟨fi.toNat, by omega⟩
                  obtain ⟨t, rfl⟩ : ∃ t : Nat, ti = (t : Int) := ⟨ti.toNat, by omega⟩
                  have hfN : f < n := by omega
                  have htN : t < n := by omega
                  obtain ⟨mt, mtf⟩ := HM1.out.cells htN
                  obtain ⟨mf, mff⟩ := HM1.out.cells hfN
                  have t0 : (0 : Int) ≤ (t : Int) := by omega
                  have t1 : (t : Int) < (n : Int) := by omega
                  have f0 : (0 : Int) ≤ (f : Int) := by omega
                  have f1 : (f : Int) < (n : Int) := by omega
                  cases hmt : mk2 t with
                  | true =>
                    rw [hmt] at mt
                    have HC1 : Hid (ag = false → Cl13 l n a mk2 (p + 1)) := Lib.hid (fun h => (HC.out h).next (fun x y he hx hy hh => by
                      rw [HAR.out] at he
                      injection he with h1 h2
                      obtain rfl : t = y := by omega
                      exact hmt))
                    clear hmt mf mff mtf
                    go_wp2_with fail
                    go_roundw
                    case rel => exact ⟨p + 1, mk2, ag, rfl, by go_num, by omega, hme, HM1, HS, HC1, HB1⟩
                    case measure => simp [intOf]; omega
                  | false =>
                    rw [hmt] at mt
                    have hun := un13_mark htN hmt
                    have HIN := Lib.hid (arr_in hpl HAR.out hfN htN)
                    by_cases hfa : (f : Int) = a
                    · have HM2 := Lib.hid (HM1.out.put htN true)
                      have HB2 := Lib.hid (HB1.out.setCell (p := ⟨w.heap.size, t, none⟩) (Nat.le_refl _) (.bool true))
                      have HS2 : Hid (∀ x, upd mk2 t true x = true → ∃ b : Nat, a = (b : Int) ∧ Way (cut13 n l) b x) := Lib.hid (fun x hx => by
                        by_cases e : x = t
                        · subst e
                          exact ⟨f, hfa.symm, .one HIN.out⟩
                        · rw [upd_far _ _ e] at hx
                          exact HS.out x hx)
                      have hbn : bn13 ag ≤ 1 := by unfold bn13; split <;> omega
                      subst hfa
                      clear hmt mf mff
                      go_wp2_with fail
                      go_roundw
                      case rel => exact ⟨p + 1, _, true, rfl, by go_num, by omega, by simp only [bn13, if_true]; omega, HM2, HS2, Lib.hid (fun h => by cases h), HB2⟩
                      case measure => simp [intOf]; omega
                    · have hfa2 : ((f : Int) == a) = false := by simp [hfa]
                      cases hmf : mk2 f with
                      | true =>
                        rw [hmf] at mf
                        have HM2 := Lib.hid (HM1.out.put htN true)
                        have HB2 := Lib.hid (HB1.out.setCell (p := ⟨w.heap.size, t, none⟩) (Nat.le_refl _) (.bool true))
                        have HS2 : Hid (∀ x, upd mk2 t true x = true → ∃ b : Nat, a = (b : Int) ∧ Way (cut13 n l) b x) := Lib.hid (fun x hx => by
                          by_cases e : x = t
                          · subst e
                            obtain ⟨b, h1, h2⟩ := HS.out f hmf
                            exact ⟨b, h1, h2.step HIN.out⟩
                          · rw [upd_far _ _ e] at hx
                            exact HS.out x hx)
                        clear hmt hmf mff
                        go_wp2_with fail
                        go_roundw
                        case rel => exact ⟨p + 1, _, true, rfl, by go_num, by omega, by simp only [bn13, if_true]; omega, HM2, HS2, Lib.hid (fun h => by cases h), HB2⟩
                        case measure => simp [intOf]; omega
                      | false =>
                        rw [hmf] at mf
                        have HC1 : Hid (ag = false → Cl13 l n a mk2 (p + 1)) := Lib.hid (fun h => (HC.out h).next (fun x y he hx hy hh => by
                          rw [HAR.out] at he
                          injection he with h1 h2
                          obtain rfl : f = x := by omega
                          rcases hh with h3 | h3
                          · exact absurd h3 hfa
                          · rw [hmf] at h3
                            cases h3))
                        clear hmt hmf mff
                        go_wp2_with fail
                        go_roundw
                        case rel => exact ⟨p + 1, mk2, ag, rfl, by go_num, by omega, hme, HM1, HS, HC1, HB1⟩
                        case measure => simp [intOf]; omega
        · obtain rfl : p = m := by omega
          have p1 : ¬ (p : Int) < (p : Int) := by omega
          go_wp2_with fail
          go_roundg (un13 mk2 n + bn13 ag)
          case measure => omega
          case rel => exact ⟨_, mk2, ag, rfl, rfl, Nat.le_refl _, HM, HS, HC, HB⟩
set_option maxHeartbeats 4000000 in
theorem rring13_any (n : Nat) (Ad : Option Addr) (l : List (Int × Int)) (m c : Nat) (os : List Nat) (w : World) (hl : l.length = m) (hr : Aq w w.heap.size Ad l) (hm : m ≤ 1000000) (hn : n ≤ 1000000) (hd : Done13 (cut13 n l) n os) :
    Calls Try.prog 28 #[.int .i64 (n : Int), .slice Ad m c] w fun e w' => e = .returned (.bool (!decide (os.length = n))) ∧ Below w.heap.size w w' := by
  have HR := Lib.hid hr
  have HL := Lib.hid hl
  have HIN : Hid (In13 (cut13 n l) n) := Lib.hid (fun p hp => cut13_lt hp)
  have HRG := Lib.hid (hd.ring HIN.out)
  have hle := hd.1.len
  have HC := Lib.hid (fun (i : Nat) (W : World) (hb : Below w.heap.size w W) => rreach13_any n Ad l m c (i : Int) W hl (Rv.step hr hb) hm hn)
  obtain ⟨b, hbb⟩ : ∃ b, (!decide (os.length = n)) = b := ⟨_, rfl⟩
  have HBB := Lib.hid hbb
  have HLE := Lib.hid hle
  rw [hbb]
  clear hr hl hd hbb hle
  go_enter Try.func28, Try.ntmps28
  go_wp2_with fail
  go_loopw [5] (fun iv wr => ∃ i : Nat, iv = .int .i64 (i : Int) ∧ i ≤ n ∧ Hid (∀ j, j < i → wayb (cut13 n l) j j = false) ∧ Hid (Below w.heap.size w wr)) (fun iv _ => n - (intOf iv).toNat)
  case atStart => exact ⟨0, rfl, by omega, Lib.hid (fun j h => by omega), Lib.hid (Below.refl _ _)⟩
  case round =>
    obtain ⟨i, rfl, hi, HF, HB⟩ := hrel
    by_cases hin : i < n
    · have HCI := Lib.hid (HC.out i wr HB.out)
      have i0 : (0 : Int) ≤ (i : Int) := by omega
      have i1 : (i : Int) < (n : Int) := by omega
      go_wp2_with fail
      refine HCI.out.mono ?_
      rintro e w1 ⟨g, T, rfl, hrv, hT, hb1⟩
      obtain ⟨a, o, hA, _, ca⟩ := bls_at hrv hin
      injection hA with hA
      injection hA with hA1 hA2
      subst hA1 hA2
      rw [Nat.zero_add] at ca
      have hTi := hT i rfl i
      have HB1 := Lib.hid (HB.out.trans (hb1.mono HB.out.size))
      clear HCI hrv hT hb1
      cases ht : T i with
      | true =>
        rw [ht] at ca hTi
        have HBT : Hid (b = true) := Lib.hid (by
          have h1 := HRG.out.1 ⟨i, wayb_yes.1 hTi.symm⟩
          rw [← HBB.out, decide_eq_false (by omega)]
          rfl)
        clear ht hTi
        go_wp2_with fail
        go_ret
        exact ⟨by rw [HBT.out]; rfl, HB1.out⟩
      | false =>
        rw [ht] at ca hTi
        have HF1 : Hid (∀ j, j < i + 1 → wayb (cut13 n l) j j = false) := Lib.hid (fun j hj => by
          rcases (show j < i ∨ j = i by omega) with h | rfl
          · exact HF.out j h
          · exact hTi.symm)
        clear ht hTi
        go_wp2_with fail
        go_roundw
        case rel => exact ⟨i + 1, by go_num, by omega, HF1, HB1⟩
        case measure => simp [intOf]; omega
    · obtain rfl : i = n := by omega
      have HBF : Hid (b = false) := Lib.hid (by
        have h1 : ¬ Rng13 (cut13 i l) := by
          rintro ⟨j, hj⟩
          have h2 := HF.out j (hj.lt HIN.out).1
          rw [wayb_yes.2 hj] at h2
          cases h2
        have h3 : ¬ os.length < i := fun h => h1 (HRG.out.2 h)
        rw [← HBB.out, decide_eq_true (by have := HLE.out; omega)]
        rfl)
      have i1 : ¬ (i : Int) < (i : Int) := by omega
      go_wp2_with fail
      go_ret
      exact ⟨by rw [HBF.out]; rfl, HB.out⟩
end Go.Proofs.Ytljpgfnjaagkaaa
namespace Go.Proofs.Ytljpgfnjaagkaaa
open Go.RowKit
set_option maxRecDepth 100000
/-- The arrows of coins, of the first k tickets. -/
def cArr14 (S : Sv14) : Nat → List (Int × Int)
  | 0 => []
  | k + 1 => cArr14 S k ++ if (gt14 S.T k).u = true ∧ (gt14 S.T k).k = 2 then [((gt14 S.T k).c, (gt14 S.T k).t)] else []
/-- The arrows of threads, of the first k of them. -/
def tArr14 (S : Sv14) : Nat → List (Int × Int)
  | 0 => []
  | k + 1 => tArr14 S k ++ if (gt14 S.H k).s = 4 then [((k : Int), (gt14 S.H k).f)] else if (gt14 S.H k).s = 6 then [((k : Int), (at14 usL S.L (gt14 S.H k).f).h)] else []
theorem cArr14_len (S : Sv14) (k : Nat) : (cArr14 S k).length ≤ k := by
  induction k with
  | zero => exact Nat.le_refl _
  | succ k ih => rw [cArr14, List.length_append]; split <;> simp <;> omega
theorem tArr14_len (S : Sv14) (k : Nat) : (tArr14 S k).length ≤ k := by
  induction k with
  | zero => exact Nat.le_refl _
  | succ k ih => rw [tArr14, List.length_append]; split <;> try split
                 all_goals simp <;> omega
theorem info14A : (Try.prog.info? 74).map (fun i => (i.zero, i.size, i.bytes)) = some (some (.agg #[.int .i64 0, .int .i64 0]), 2, 16) := by kernel_rfl
theorem aq14_own {w : World} {base : Nat} {e : TypeId} {A : Option Addr} {c n : Nat} {l : List (Int × Int)} (h : w.ownsRow base e 2 (.slice A n c) n (acs l)) : Aq w w.heap.size A l := by
  intro hx
  have hl := h.1
  have hpos : 0 < (acs l).length := List.length_pos_iff.2 hx
  rcases h.2 with ⟨_, h1⟩ | ⟨g, cap, cur, hv, _, hh, _⟩
  · subst h1
    rw [hl, Nat.zero_mul] at hpos
    omega
  · have hA : A = some ⟨g, 0, none⟩ := by injection hv
    subst hA
    refine ⟨g, 0, rfl, (h.lt g rfl).2, fun i v hk => ?_⟩
    have hc := h.cells (g := g) rfl i _ hk
    rw [Go.WideShapes.add_plain] at hc
    exact hc
/-- A list of arrows is answered. -/
def RetAq14 (w : World) (l : List (Int × Int)) (e : Ending) (w' : World) : Prop := ∃ A c, e = .returned (.slice A l.length c) ∧ Aq w' w'.heap.size A l ∧ Below w.heap.size w w'
/-- Between two rounds: the row of arrows so far. -/
structure Ar14 (w : World) (S : Sv14) (A0 A1 A2 A3 A4 : Option Addr) (n0 n1 n2 n3 n4 c0 c1 c2 c3 c4 : Nat) (sq : Int) (A : Option Addr) (m c : Nat) (l : List (Int × Int)) (W : World) : Prop where
  b : Bx14 w S A0 A1 A2 A3 A4 n0 n1 n2 n3 n4 c0 c1 c2 c3 c4 sq W
  o : W.ownsRow (w.heap.size + 1) 74 2 (.slice A m c) m (acs l)
  l : l.length = m
theorem Ar14.step {w : World} {S : Sv14} {A0 A1 A2 A3 A4 : Option Addr} {n0 n1 n2 n3 n4 c0 c1 c2 c3 c4 : Nat} {sq : Int} {A : Option Addr} {m c : Nat} {l : List (Int × Int)} {W W' : World} (h : Ar14 w S A0 A1 A2 A3 A4 n0 n1 n2 n3 n4 c0 c1 c2 c3 c4 sq A m c l W) (hb : Below W.heap.size W W') : Ar14 w S A0 A1 A2 A3 A4 n0 n1 n2 n3 n4 c0 c1 c2 c3 c4 sq A m c l W' :=
  ⟨h.b.step hb, own12_keep2 h.o hb, h.l⟩
theorem Ar14.congr {w : World} {S : Sv14} {A0 A1 A2 A3 A4 : Option Addr} {n0 n1 n2 n3 n4 c0 c1 c2 c3 c4 : Nat} {sq : Int} {A : Option Addr} {m c : Nat} {l l2 : List (Int × Int)} {W : World} (h : Ar14 w S A0 A1 A2 A3 A4 n0 n1 n2 n3 n4 c0 c1 c2 c3 c4 sq A m c l W) (e : l = l2) : Ar14 w S A0 A1 A2 A3 A4 n0 n1 n2 n3 n4 c0 c1 c2 c3 c4 sq A m c l2 W := e ▸ h
/-- An arrow is appended. -/
theorem Ar14.push {w : World} {S : Sv14} {A0 A1 A2 A3 A4 : Option Addr} {n0 n1 n2 n3 n4 c0 c1 c2 c3 c4 : Nat} {sq : Int} {A : Option Addr} {m c : Nat} {l : List (Int × Int)} {W : World} (hs : SA14 w S A0 A1 A2 A3 A4 n0 n1 n2 n3 n4 c0 c1 c2 c3 c4 sq) (h : Ar14 w S A0 A1 A2 A3 A4 n0 n1 n2 n3 n4 c0 c1 c2 c3 c4 sq A m c l W) (x y : Int) (hm : m ≤ 2000) :
    ∃ Az cz W2, (Builtin.append_ #[47, 47] 47 #[.slice A m c, .slice (some ⟨W.heap.size, 0, none⟩) 1 1]).run Try.prog (W.alloc (.cells #[.int .i64 x, .int .i64 y] 74)) = .ok (.slice Az (m + 1) cz) W2 ∧ Ar14 w S A0 A1 A2 A3 A4 n0 n1 n2 n3 n4 c0 c1 c2 c3 c4 sq Az (m + 1) cz (l ++ [(x, y)]) W2 := by
  have hbz := b1' W (.cells #[.int .i64 x, .int .i64 y] 74)
  have hkz := Blk.new W 74 #[.int .i64 x, .int .i64 y]
  have h1 := h.step hbz
  have hsy : (W.alloc (.cells #[.int .i64 x, .int .i64 y] 74)).heap.size = W.heap.size + 1 := by simp
  obtain ⟨Y, hY⟩ : ∃ Y, W.alloc (.cells #[.int .i64 x, .int .i64 y] 74) = Y := ⟨_, rfl⟩
  rw [hY] at hbz hkz h1 hsy ⊢
  have hrv : Rv Y Y.heap.size (some ⟨W.heap.size, 0, none⟩) [.int .i64 x, .int .i64 y] := fun _ => ⟨W.heap.size, 0, rfl, by omega, fun j v hj => by rw [Nat.zero_add, hkz.cell]; simpa using hj⟩
  have hxl := h1.b.x.lt
  obtain ⟨Az, cz, W2, hrun, hown, hg⟩ := run_append_14 (P := Try.prog) Y (w.heap.size + 1) 47 47 74 _ 2 16 Try.underlying47 info14A rfl (by omega) (by omega) _ m _ h1.o Y.heap.size (some ⟨W.heap.size, 0, none⟩) [.int .i64 x, .int .i64 y] 1 1 rfl hrv (by simp [Value.oneCell']) (by omega) (by omega)
  have hB : Below w.heap.size w W2 := h1.b.b.grown hg h1.b.b.size (fun r hr => by have := (h1.o.lt r hr).1; omega)
  refine ⟨Az, cz, W2, hrun, ⟨hB, h1.b.x.grown hg (fun e => by have := (h1.o.lt _ e.symm).1; omega), hs.step hB⟩, ?_, by simp [h.l]⟩
  rw [acs_append]
  exact hown
set_option maxHeartbeats 2000000 in
theorem coinArrows14 (v : Value) (S : Sv14) (w : World) (h : St14 w v S) : Calls Try.prog 33 #[v] w (RetAq14 w (cArr14 S S.T.length)) := by
  obtain ⟨A0, A1, A2, A3, A4, n0, n1, n2, n3, n4, c0, c1, c2, c3, c4, sq, rfl, hs⟩ := h
  have HP : Hid (RetAq14 w (cArr14 S S.T.length) = fun e w' => ∃ A c, e = .returned (.slice A (cArr14 S n1).length c) ∧ Aq w' w'.heap.size A (cArr14 S n1) ∧ Below w.heap.size w w') := Lib.hid (by rw [hs.l1]; rfl)
  have HX0 : Hid (Ar14 w S A0 A1 A2 A3 A4 n0 n1 n2 n3 n4 c0 c1 c2 c3 c4 sq none 0 0 (cArr14 S 0) (w.alloc (.cells #[.slice A0 n0 c0, .slice A1 n1 c1, .slice A2 n2 c2, .slice A3 n3 c3, .slice A4 n4 c4, .int .i64 sq] 28))) := Lib.hid ⟨Bx14.new hs, World.ownsRow_nil _ _ _ _, rfl⟩
  have HS := Lib.hid hs
  have hnb := hs.m1
  have t1 := HX0.out.b.x.cell 1
  clear hs
  go_enter Try.func33, Try.ntmps33
  go_wp2_with fail
  clear t1
  go_loopw [2, 8] (fun v i wr => ∃ (k : Nat) (A : Option Addr) (m c : Nat), v = .slice A m c ∧ i = .int .i64 (k : Int) ∧ k ≤ n1 ∧ Hid (Ar14 w S A0 A1 A2 A3 A4 n0 n1 n2 n3 n4 c0 c1 c2 c3 c4 sq A m c (cArr14 S k) wr)) (fun _ i _ => n1 - (intOf i).toNat)
  case atStart => exact ⟨0, none, 0, 0, rfl, rfl, by omega, HX0⟩
  case round =>
    obtain ⟨k, A, m, c, rfl, rfl, hk, HW⟩ := hrel
    by_cases hkn : k < n1
    · skip
      obtain ⟨a, of, hA, hab, hq⟩ := Lq.at_ len14T (by omega) HW.out.b.s.r1 (show k < S.T.length by rw [HW.out.b.s.l1]; omega)
      have HAE := Lib.hid hA
      obtain ⟨x, hx⟩ : ∃ x, gt14 S.T k = x := ⟨_, rfl⟩
      rw [hx] at hq
      obtain ⟨xu, xc, xa, xk, xt, xo⟩ := x
      have e0 : wr.cell? ⟨a, of + k * 6, none⟩ = some (.bool xu) := hq 0 _ rfl
      have e1 : wr.cell? ⟨a, of + k * 6 + 1, none⟩ = some (.int .i64 xc) := hq 1 _ rfl
      have e2 : wr.cell? ⟨a, of + k * 6 + 2, none⟩ = some (.int .i64 xa) := hq 2 _ rfl
      have e3 : wr.cell? ⟨a, of + k * 6 + 3, none⟩ = some (.int .i64 xk) := hq 3 _ rfl
      have e4 : wr.cell? ⟨a, of + k * 6 + 4, none⟩ = some (.int .i64 xt) := hq 4 _ rfl
      have e5 : wr.cell? ⟨a, of + k * 6 + 5, none⟩ = some (.bool xo) := hq 5 _ rfl
      have i0 : (0 : Int) ≤ (k : Int) := by omega
      have i1 : (k : Int) < (n1 : Int) := by omega
      have HV := Lib.hid (Ar14.step HW.out (b1' wr (.cells #[.bool xu, .int .i64 xc, .int .i64 xa, .int .i64 xk, .int .i64 xt, .bool xo] 40)))
      have hv := Blk.new wr 40 #[.bool xu, .int .i64 xc, .int .i64 xa, .int .i64 xk, .int .i64 xt, .bool xo]
      have v0 := hv.cell 0
      have v1 := hv.cell 1
      have v2 := hv.cell 2
      have v3 := hv.cell 3
      have v4 := hv.cell 4
      have v5 := hv.cell 5
      have HVB := Lib.hid hv
      have HXE := Lib.hid hx
      have p0 := HV.out.b.x.cell 0
      have p1 := HV.out.b.x.cell 1
      have p2 := HV.out.b.x.cell 2
      have p3 := HV.out.b.x.cell 3
      have p4 := HV.out.b.x.cell 4
      have p5 := HV.out.b.x.cell 5
      obtain ⟨X, hX⟩ : ∃ X, wr.alloc (.cells #[.bool xu, .int .i64 xc, .int .i64 xa, .int .i64 xk, .int .i64 xt, .bool xo] 40) = X := ⟨_, rfl⟩
      rw [hX] at HV HVB v0 v1 v2 v3 v4 v5 p0 p1 p2 p3 p4 p5
      clear hv hq hx hab
      subst hA
      have hmk : m ≤ k := by rw [← HW.out.l]; exact cArr14_len S k
      cases xu with
      | false =>
        have HN := Lib.hid (HV.out.congr (l2 := cArr14 S (k + 1)) (by rw [cArr14, HXE.out, if_neg (by simp), List.append_nil]))
        go_wp2_with fail
        go_roundw
        case rel => exact ⟨k + 1, A, m, c, rfl, by go_num, by omega, HN⟩
        case measure => simp [intOf]; omega
      | true =>
        by_cases k2 : xk = 2
        · subst k2
          have HE : Hid (cArr14 S (k + 1) = cArr14 S k ++ [(xc, xt)]) := Lib.hid (by rw [cArr14, HXE.out, if_pos (by simp)])
          obtain ⟨Az, cz, W2, hrun, har⟩ := HV.out.push HS.out xc xt (by omega)
          have HRUN := Lib.hid hrun
          have HAR := Lib.hid (har.congr HE.out.symm)
          clear hrun har
          go_wp2_with (at_builtin; go_loud (refine wpList_append_14 _ rfl (.tmp 19) (.tmp 25) 47 rfl _ _ _ _ rfl rfl HRUN.out ?_))
          go_roundw
          case rel => exact ⟨k + 1, Az, m + 1, cz, rfl, by go_num, by omega, HAR⟩
          case measure => simp [intOf]; omega
        · have HN := Lib.hid (HV.out.congr (l2 := cArr14 S (k + 1)) (by rw [cArr14, HXE.out, if_neg (by simp [k2]), List.append_nil]))
          go_wp2_with fail
          go_roundw
          case rel => exact ⟨k + 1, A, m, c, rfl, by go_num, by omega, HN⟩
          case measure => simp [intOf]; omega
    · obtain rfl : k = n1 := by omega
      have HL := Lib.hid HW.out.l
      have h1 : ¬ (k : Int) < (k : Int) := by omega
      go_wp2_with fail
      go_ret
      rw [HP.out]
      exact ⟨A, c, by rw [HL.out]; rfl, aq14_own HW.out.o, HW.out.b.b⟩
end Go.Proofs.Ytljpgfnjaagkaaa
namespace Go.Proofs.Ytljpgfnjaagkaaa
open Go.RowKit Go.Shelf Go.Sort
set_option maxRecDepth 100000
/-- Sorted. -/
def srt14 (zs : List Int) : List Int := zs.mergeSort fun x y => decide (x ≤ y)
theorem srt14_len (zs : List Int) : (srt14 zs).length = zs.length := by simp [srt14]
instance (S : Sv14) (i : Nat) (t : Th14) : Decidable (Queues14 S i t) := by unfold Queues14; infer_instance
/-- Who ought to stand in the Queue, of the first k. -/
def want14 (S : Sv14) : Nat → List Int
  | 0 => []
  | k + 1 => want14 S k ++ if Queues14 S k (gt14 S.H k) then [(k : Int)] else []
theorem want14_len (S : Sv14) (k : Nat) : (want14 S k).length ≤ k := by
  induction k with
  | zero => exact Nat.le_refl _
  | succ k ih => rw [want14, List.length_append]; split <;> simp <;> omega
/-- Is a thread Calling one that is Listening? -/
def Heard14 (S : Sv14) (t : Th14) : Prop := t.s = 4 ∧ (at14 usH S.H t.f).s = 5
def Queue14 (S : Sv14) : Prop := S.Q.length ≤ 32 ∧ (∀ j, j < S.H.length → Queues14 S j (gt14 S.H j) → ¬ Heard14 S (gt14 S.H j)) ∧ srt14 S.Q = want14 S S.H.length
end Go.Proofs.Ytljpgfnjaagkaaa
namespace Go.Proofs.Ytljpgfnjaagkaaa
open Go.RowKit
set_option maxRecDepth 100000
/-- There is no ring: all are told. -/
def Free14R (n : Nat) (l : List (Int × Int)) : Prop := ∃ os, Done13 (cut13 n l) n os ∧ os.length = n
theorem free14R_iff {n : Nat} {l : List (Int × Int)} {os : List Nat} (h : Done13 (cut13 n l) n os) : Free14R n l ↔ os.length = n := by
  constructor
  · rintro ⟨zs, h1, h2⟩
    rw [h.same h1]
    exact h2
  · exact fun e => ⟨os, h, e⟩
/-- A state may be. -/
def Fine14 (S : Sv14) : Prop := 1 ≤ S.q ∧ S.q ≤ 1000 ∧ Tidies14 S ∧ us14 usC S.C 0 = true ∧ Tickets14 S ∧ Threads14 S ∧ Locks14 S ∧ Queue14 S ∧ Free14R S.C.length (cArr14 S S.T.length) ∧ Free14R S.H.length (tArr14 S S.H.length)
end Go.Proofs.Ytljpgfnjaagkaaa
namespace Go.Proofs.Ytljpgfnjaagkaaa
open Go.RowKit
set_option maxRecDepth 100000
/-- The arrows of coins. -/
def Ca15 (S : Sv14) : List (Nat × Nat) := cut13 S.C.length (cArr14 S S.T.length)
/-- One coin funds another one. -/
def Fnd15 (S : Sv14) (a b : Int) : Prop := us14 usC S.C a = true ∧ us14 usC S.C b = true ∧ Way (Ca15 S) a.toNat b.toNat
/-- One ticket funds coin k. -/
def Bck15 (S : Sv14) (k j : Nat) : Prop := j < S.T.length ∧ (gt14 S.T j).u = true ∧ (gt14 S.T j).k = 2 ∧ (gt14 S.T j).t = (k : Int)
/-- The own coins of c. -/
inductive Own15 (S : Sv14) (c : Nat) : Nat → Prop
  | one : us14 usC S.C (c : Int) = true → Own15 S c c
  | step {k : Nat} : us14 usC S.C (k : Int) = true → (∃ j, Bck15 S k j) → (∀ j, Bck15 S k j → 0 ≤ (gt14 S.T j).c) → (∀ j, Bck15 S k j → Own15 S c (gt14 S.T j).c.toNat) → Own15 S c k
open Classical in
noncomputable def own15b (S : Sv14) (c k : Nat) : Bool := decide (Own15 S c k)
theorem own15b_yes {S : Sv14} {c k : Nat} : own15b S c k = true ↔ Own15 S c k := by
  unfold own15b
  exact @decide_eq_true_iff _ (Classical.propDecidable _)
/-- A set that is sound and closed is the set of own coins. -/
theorem own15_is {S : Sv14} {c : Nat} {m : Nat → Bool} (hs : ∀ x, m x = true → Own15 S c x) (h0 : us14 usC S.C (c : Int) = true → m c = true)
    (hc : ∀ (k : Nat), us14 usC S.C (k : Int) = true → (∃ j, Bck15 S k j) → (∀ j, Bck15 S k j → 0 ≤ (gt14 S.T j).c ∧ m (gt14 S.T j).c.toNat = true) → m k = true) : ∀ k, m k = own15b S c k := by
  intro k
  rw [Bool.eq_iff_iff, own15b_yes]
  constructor
  · exact hs k
  · intro h
    induction h with
    | one h => exact h0 h
    | step h1 h2 h3 _ ih => exact hc _ h1 h2 (fun j hj => ⟨h3 j hj, ih j hj⟩)
end Go.Proofs.Ytljpgfnjaagkaaa
namespace Go.Proofs.Ytljpgfnjaagkaaa
open Go.RowKit
set_option maxRecDepth 100000
set_option maxHeartbeats 2000000 in
theorem ordc15 (c : Int) (gx : Nat) (S : Sv14) (A0 A1 A2 A3 A4 : Option Addr) (n0 n1 n2 n3 n4 c0 c1 c2 c3 c4 : Nat) (sq : Int) (w : World) (b : Bool) (hx : Blk w gx 28 #[.slice A0 n0 c0, .slice A1 n1 c1, .slice A2 n2 c2, .slice A3 n3 c3, .slice A4 n4 c4, .int .i64 sq]) (hs : SA14 w S A0 A1 A2 A3 A4 n0 n1 n2 n3 n4 c0 c1 c2 c3 c4 sq) (hb : us14 usC S.C c = b) :
    Calls Try.prog 35 #[.int .i64 c, .pointer (some ⟨gx, 0, none⟩)] w fun e w' => e = .returned (.bool (!b)) ∧ Below w.heap.size w w' := by
  have HC := Lib.hid (coin14 (.agg #[.slice A0 n0 c0, .slice A1 n1 c1, .slice A2 n2 c2, .slice A3 n3 c3, .slice A4 n4 c4, .int .i64 sq]) S c b w ⟨A0, A1, A2, A3, A4, n0, n1, n2, n3, n4, c0, c1, c2, c3, c4, sq, rfl, hs⟩ hb)
  have x0 := hx.cell 0
  have x1 := hx.cell 1
  have x2 := hx.cell 2
  have x3 := hx.cell 3
  have x4 := hx.cell 4
  have x5 := hx.cell 5
  clear hs hb hx
  go_enter Try.func35, Try.ntmps35
  go_wp2_with fail
  refine HC.out.mono ?_
  rintro e w1 ⟨rfl, hb1⟩
  clear HC
  cases b with
  | true =>
    go_wp2_with fail
    go_ret
    exact ⟨rfl, hb1⟩
  | false =>
    go_wp2_with fail
    go_ret
    exact ⟨rfl, hb1⟩
/-- Where the first one is. -/
def Fst15 (p : Nat → Bool) (xs : List Nat) (n : Nat) (r : Int) : Prop := (∃ k : Nat, k < n ∧ r = (k : Int) ∧ p (nth xs k) = true ∧ ∀ j, j < k → p (nth xs j) = false) ∨ (r = -1 ∧ ∀ j, j < n → p (nth xs j) = false)
set_option maxHeartbeats 4000000 in
theorem idx15a (A : Option Addr) (xs : List Nat) (n c gx B : Nat) (w : World) (hl : xs.length = n) (hr : Rd w B A xs) (hn : n ≤ 1000000) (hB : B ≤ w.heap.size) (p : Nat → Bool)
    (hcl : ∀ W, Below w.heap.size w W → ∀ x, x ∈ xs → Calls Try.prog 35 #[.int .i64 ((x : Nat) : Int), .pointer (some ⟨gx, 0, none⟩)] W fun e w' => e = .returned (.bool (p x)) ∧ Below W.heap.size W w') :
    Calls Try.prog 53 #[.slice A n c, .func (.func 35) #[] #[.pointer (some ⟨gx, 0, none⟩)]] w fun e w' => ∃ r : Int, e = .returned (.int .i64 r) ∧ Fst15 p xs n r ∧ Below w.heap.size w w' := by
  have HL := Lib.hid hl
  have HR := Lib.hid hr
  have HC := Lib.hid hcl
  clear hl hr hcl
  go_enter Try.func53, Try.ntmps53
  go_wp2_with fail
  go_loopw [8] (fun i wr => ∃ k : Nat, i = .int .i64 (k : Int) ∧ k ≤ n ∧ Hid (∀ j, j < k → p (nth xs j) = false) ∧ Hid (Below w.heap.size w wr)) (fun i _ => n - (intOf i).toNat)
  case atStart => exact ⟨0, rfl, by omega, Lib.hid (fun j h => by omega), Lib.hid (Below.refl _ _)⟩
  case round =>
    obtain ⟨k, rfl, hk, HN, HG⟩ := hrel
    by_cases hkn : k < n
    · obtain ⟨g, o, hA, hab, q0⟩ := (HR.out.below HG.out hB).at_ (show k < xs.length by have := HL.out; omega)
      subst hA
      obtain ⟨x, hx⟩ : ∃ x, nth xs k = x := ⟨_, rfl⟩
      rw [hx] at q0
      obtain ⟨bp, hbp⟩ : ∃ y, p x = y := ⟨_, rfl⟩
      have HX : Hid (p (nth xs k) = bp) := Lib.hid (by rw [hx]; exact hbp)
      have i0 : (0 : Int) ≤ (k : Int) := by omega
      have i1 : (k : Int) < (n : Int) := by omega
      have hc := HC.out _ HG.out x (by rw [← hx, nth_in (by have := HL.out; omega)]; exact List.getElem_mem _)
      rw [hbp] at hc
      have HCK := Lib.hid hc
      clear hx hbp hc hab
      cases bp with
      | true =>
        go_wp2_with fail
        refine HCK.out.mono ?_
        rintro e w1 ⟨rfl, hb1⟩
        have HG1 := Lib.hid (HG.out.trans (hb1.mono HG.out.size))
        clear HCK hb1
        go_wp2_with fail
        go_ret
        exact ⟨(k : Int), rfl, .inl ⟨k, hkn, rfl, HX.out, HN.out⟩, HG1.out⟩
      | false =>
        go_wp2_with fail
        refine HCK.out.mono ?_
        rintro e w1 ⟨rfl, hb1⟩
        have HG1 := Lib.hid (HG.out.trans (hb1.mono HG.out.size))
        clear HCK hb1
        go_wp2_with fail
        go_roundw
        case rel => exact ⟨k + 1, by go_num, by omega, Lib.hid (fun j hj => by
          rcases (show j < k ∨ j = k by omega) with h5 | h5
          · exact HN.out j h5
          · rw [h5]; exact HX.out), HG1⟩
        case measure => simp [intOf]; omega
    · obtain rfl : k = n := by omega
      have i1 : ¬ (k : Int) < (k : Int) := by omega
      go_wp2_with fail
      go_ret
      exact ⟨-1, rfl, .inr ⟨rfl, HN.out⟩, HG.out⟩
set_option maxHeartbeats 4000000 in
theorem idx15b (A : Option Addr) (xs : List Nat) (n c gl gx B : Nat) (w : World) (hl : xs.length = n) (hr : Rd w B A xs) (hn : n ≤ 1000000) (hB : B ≤ w.heap.size) (p : Nat → Bool)
    (hcl : ∀ W, Below w.heap.size w W → ∀ x, x ∈ xs → Calls Try.prog 61 #[.int .i64 ((x : Nat) : Int), .pointer (some ⟨gl, 0, none⟩), .pointer (some ⟨gx, 0, none⟩)] W fun e w' => e = .returned (.bool (p x)) ∧ Below W.heap.size W w') :
    Calls Try.prog 53 #[.slice A n c, .func (.func 61) #[] #[.pointer (some ⟨gl, 0, none⟩), .pointer (some ⟨gx, 0, none⟩)]] w fun e w' => ∃ r : Int, e = .returned (.int .i64 r) ∧ Fst15 p xs n r ∧ Below w.heap.size w w' := by
  have HL := Lib.hid hl
  have HR := Lib.hid hr
  have HC := Lib.hid hcl
  clear hl hr hcl
  go_enter Try.func53, Try.ntmps53
  go_wp2_with fail
  go_loopw [8] (fun i wr => ∃ k : Nat, i = .int .i64 (k : Int) ∧ k ≤ n ∧ Hid (∀ j, j < k → p (nth xs j) = false) ∧ Hid (Below w.heap.size w wr)) (fun i _ => n - (intOf i).toNat)
  case atStart => exact ⟨0, rfl, by omega, Lib.hid (fun j h => by omega), Lib.hid (Below.refl _ _)⟩
  case round =>
    obtain ⟨k, rfl, hk, HN, HG⟩ := hrel
    by_cases hkn : k < n
    · obtain ⟨g, o, hA, hab, q0⟩ := (HR.out.below HG.out hB).at_ (show k < xs.length by have := HL.out; omega)
      subst hA
      obtain ⟨x, hx⟩ : ∃ x, nth xs k = x := ⟨_, rfl⟩
      rw [hx] at q0
      obtain ⟨bp, hbp⟩ : ∃ y, p x = y := ⟨_, rfl⟩
      have HX : Hid (p (nth xs k) = bp) := Lib.hid (by rw [hx]; exact hbp)
      have i0 : (0 : Int) ≤ (k : Int) := by omega
      have i1 : (k : Int) < (n : Int) := by omega
      have hc := HC.out _ HG.out x (by rw [← hx, nth_in (by have := HL.out; omega)]; exact List.getElem_mem _)
      rw [hbp] at hc
      have HCK := Lib.hid hc
      clear hx hbp hc hab
      cases bp with
      | true =>
        go_wp2_with fail
        refine HCK.out.mono ?_
        rintro e w1 ⟨rfl, hb1⟩
        have HG1 := Lib.hid (HG.out.trans (hb1.mono HG.out.size))
        clear HCK hb1
        go_wp2_with fail
        go_ret
        exact ⟨(k : Int), rfl, .inl ⟨k, hkn, rfl, HX.out, HN.out⟩, HG1.out⟩
      | false =>
        go_wp2_with fail
        refine HCK.out.mono ?_
        rintro e w1 ⟨rfl, hb1⟩
        have HG1 := Lib.hid (HG.out.trans (hb1.mono HG.out.size))
        clear HCK hb1
        go_wp2_with fail
        go_roundw
        case rel => exact ⟨k + 1, by go_num, by omega, Lib.hid (fun j hj => by
          rcases (show j < k ∨ j = k by omega) with h5 | h5
          · exact HN.out j h5
          · rw [h5]; exact HX.out), HG1⟩
        case measure => simp [intOf]; omega
    · obtain rfl : k = n := by omega
      have i1 : ¬ (k : Int) < (k : Int) := by omega
      go_wp2_with fail
      go_ret
      exact ⟨-1, rfl, .inr ⟨rfl, HN.out⟩, HG.out⟩
set_option maxHeartbeats 2000000 in
theorem cont15 (A : Option Addr) (xs : List Nat) (n c gl gx B : Nat) (w : World) (hl : xs.length = n) (hr : Rd w B A xs) (hn : n ≤ 1000000) (hB : B ≤ w.heap.size) (p : Nat → Bool)
    (hcl : ∀ W, Below w.heap.size w W → ∀ x, x ∈ xs → Calls Try.prog 61 #[.int .i64 ((x : Nat) : Int), .pointer (some ⟨gl, 0, none⟩), .pointer (some ⟨gx, 0, none⟩)] W fun e w' => e = .returned (.bool (p x)) ∧ Below W.heap.size W w')
    (b : Bool) (hb : b = true ↔ ∃ x, x ∈ xs ∧ p x = true) :
    Calls Try.prog 62 #[.slice A n c, .func (.func 61) #[] #[.pointer (some ⟨gl, 0, none⟩), .pointer (some ⟨gx, 0, none⟩)]] w fun e w' => e = .returned (.bool b) ∧ Below w.heap.size w w' := by
  have HI := Lib.hid (idx15b A xs n c gl gx B w hl hr hn hB p hcl)
  have HB := Lib.hid hb
  have HL := Lib.hid hl
  clear hl hr hcl hb
  go_enter Try.func62, Try.ntmps62
  go_wp2_with fail
  refine HI.out.mono ?_
  rintro e w1 ⟨r, rfl, hf, hb1⟩
  clear HI
  rcases hf with ⟨k, h1, rfl, h2, _⟩ | ⟨rfl, h2⟩
  · obtain rfl : b = true := HB.out.2 ⟨nth xs k, by rw [nth_in (by have := HL.out; omega)]; exact List.getElem_mem _, h2⟩
    have h0 : (0 : Int) ≤ (k : Int) := by omega
    clear h2
    go_wp2_with fail
    go_ret
    exact ⟨rfl, hb1⟩
  · obtain rfl : b = false := by
      cases hbb : b with
      | false => rfl
      | true =>
        obtain ⟨x, h3, h4⟩ := HB.out.1 hbb
        obtain ⟨j, hj, rfl⟩ := List.getElem_of_mem h3
        rw [← nth_in hj, h2 j (by have := HL.out; omega)] at h4
        cases h4
    clear h2
    go_wp2_with fail
    go_ret
    exact ⟨rfl, hb1⟩
/-- clear of what lies behind the first k. -/
theorem clear15 {w : World} {g n k : Nat} {h : Nat → Nat} (q : Ib13 w g n h) (hk : k ≤ n) (B : Option Addr) (c : Nat) (hB : k < n → B = some ⟨g, k, none⟩) :
    ∃ w', (∀ ty, (Builtin.clear_ #[26] ty #[.slice B (n - k) c]).run Try.prog w = .ok (.tuple #[]) w') ∧ Ib13 w' g k h ∧ w.grownBy w' (some g) := by
  rcases Nat.eq_zero_or_pos (n - k) with h0 | h0
  · rw [h0]
    obtain rfl : k = n := by omega
    refine ⟨w, fun ty => ?_, q, World.grownBy.refl _ _⟩
    cases B <;> simp [Builtin.clear_, run_underlying Try.underlying26]
  · obtain rfl := hB (by omega)
    obtain ⟨cs, h1, h2, h3⟩ := q
    obtain ⟨zs, hz0⟩ : ∃ zs, zs = ints (List.replicate (n - k) 0) := ⟨_, rfl⟩
    have hzl : zs.length = n - k := by rw [hz0]; simp [ints]
    have hst := run_storeCells_at (P := Try.prog) g k 3 zs 0 cs w h1 (by omega) (by rw [hz0]; exact ints_one _)
    have hz : ∀ W, (zeroValue 3).run Try.prog W = .ok (.int .i64 0) W := fun W => by
      obtain ⟨i, hi, hz, _⟩ := info_parts info_int11
      simp [zeroValue, typeInfo, hi, hz]
    have hzc : (Builtin.zeroCells (Value.int .i64 0).cells (n - k)).toList = zs := by
      rw [hz0]
      simp [Builtin.zeroCells, Value.cells, ints]
      apply List.ext_getElem
      · simp
      · intro i h1 h2
        simp [Nat.mod_one]
    refine ⟨w.setRow g (cs.toList.take k ++ zs ++ cs.toList.drop (k + zs.length)).toArray, fun ty => ?_, ⟨_, setRow_heap _ _ _ _ _ _ h1, ?_, fun j hj => ?_⟩, ?_⟩
    · obtain ⟨d, hd⟩ : ∃ d, n - k = d + 1 := ⟨n - k - 1, by omega⟩
      rw [Nat.add_zero] at hst
      rw [← hzc] at hst ⊢
      rw [hd] at hst ⊢
      simp [Builtin.clear_, run_underlying Try.underlying26, hz, hst]
    · simp
      omega
    · rw [← h3 j (by omega)]
      simp only [List.getElem?_toArray, List.append_assoc]
      rw [List.getElem?_append_left (by simp; omega), List.getElem?_take_of_lt hj, Array.getElem?_toList]
    · exact ⟨rfl, rfl, rfl, by simp [World.setRow], fun j _ hj => setRow_other w g j _ (fun e => hj (by rw [e]))⟩
/-- s[k:] -/
theorem cutb15 (g n c k : Nat) (hk : k ≤ n) (hn : n ≤ c) : ∃ B, (∀ W, (Instr.slice 26 (.slice (some ⟨g, 0, none⟩) n c) (some (.int .i64 (k : Int))) none none).run Try.prog W = .ok (.slice B (n - k) (c - k)) W) ∧ (k < n → B = some ⟨g, k, none⟩) := by
  refine ⟨if c = k then some ⟨g, 0, none⟩ else (some (⟨g, 0, none⟩ : Addr)).map (·.add k), fun W => ?_, fun h => ?_⟩
  · simp [go_sem, show (k : Int) ≤ (n : Int) by omega, run_slice_l]
  · rw [if_neg (by omega)]
    simp [Addr.add]
    omega
end Go.Proofs.Ytljpgfnjaagkaaa
namespace Go.Proofs.Ytljpgfnjaagkaaa
open Go.RowKit
set_option maxRecDepth 100000
theorem filt15_next {xs : List Nat} {p : Nat → Bool} {j : Nat} (hj : j < xs.length) : (xs.take (j + 1)).filter p = (xs.take j).filter p ++ if p (nth xs j) then [nth xs j] else [] := by
  rw [List.take_add_one, List.getElem?_eq_getElem hj, nth_in hj, List.filter_append]
  congr 1
  cases h : p xs[j] <;> simp [h]
theorem filt15_head {xs : List Nat} {p : Nat → Bool} {j : Nat} (hj : j ≤ xs.length) (h : ∀ t, t < j → p (nth xs t) = true) : (xs.take j).filter p = xs.take j := by
  rw [List.filter_eq_self]
  intro x hx
  obtain ⟨t, ht, rfl⟩ := List.getElem_of_mem hx
  rw [List.length_take] at ht
  rw [List.getElem_take, ← nth_in]
  exact h t (by omega)
theorem nth15_take {xs : List Nat} {j t : Nat} (h : t < j) : nth (xs.take j) t = nth xs t := by simp [nth, List.getElem?_take, h]
theorem nth15_low {xs ys : List Nat} {t : Nat} (h : t < xs.length) : nth (xs ++ ys) t = nth xs t := by simp [nth, List.getElem?_append_left h]
theorem nth15_at {xs : List Nat} {x t : Nat} (h : xs.length = t) : nth (xs ++ [x]) t = x := by subst h; simp [nth]
/-- What a slice of ints that is answered reads as. -/
def RetR15 (w : World) (xs : List Nat) (e : Ending) (w' : World) : Prop := ∃ A c, e = .returned (.slice A xs.length c) ∧ Rd w' w'.heap.size A xs ∧ Below w.heap.size w w'
theorem rd15_own {w : World} {base : Nat} {A : Option Addr} {c n : Nat} {xs : List Nat} (h : w.ownsRow base 3 1 (.slice A n c) n (ints xs)) (hl : xs.length = n) : Rd w w.heap.size A xs := by
  rcases h.2 with ⟨_, h1⟩ | ⟨g, cap, cur, hv, _, _⟩
  · intro hx
    exact absurd (List.eq_nil_of_length_eq_zero (by omega)) hx
  · injection hv with hA hn hc
    subst hA hl
    exact (Ib13.of_own h rfl).rd (fun _ _ => rfl)
/-- What DeleteFunc answers. -/
def RetF15 (B : Nat) (w : World) (ys : List Nat) (e : Ending) (w' : World) : Prop := ∃ A c, e = .returned (.slice A ys.length c) ∧ Rd w' w'.heap.size A ys ∧ Below B w w'
/-- Between two rounds of DeleteFunc. -/
structure Df15 (w : World) (B g n : Nat) (xs : List Nat) (p : Nat → Bool) (k j : Nat) (W : World) : Prop where
  b : Below B w W
  l : ((xs.take j).filter (fun x => !p x)).length = k
  r : ∃ h : Nat → Nat, Ib13 W g n h ∧ (∀ t, t < k → h t = nth ((xs.take j).filter (fun x => !p x)) t) ∧ ∀ t, j ≤ t → t < n → h t = nth xs t
set_option maxHeartbeats 4000000 in
theorem del15 (A : Option Addr) (xs : List Nat) (n c gx B : Nat) (w : World) (hl : xs.length = n) (ho : w.ownsRow B 3 1 (.slice A n c) n (ints xs)) (hn : n ≤ 1000000) (hB : B ≤ w.heap.size) (p : Nat → Bool)
    (hcl : ∀ W, Below B w W → ∀ x, x ∈ xs → Calls Try.prog 35 #[.int .i64 ((x : Nat) : Int), .pointer (some ⟨gx, 0, none⟩)] W fun e w' => e = .returned (.bool (p x)) ∧ Below W.heap.size W w') :
    Calls Try.prog 34 #[.slice A n c, .func (.func 35) #[] #[.pointer (some ⟨gx, 0, none⟩)]] w (RetF15 B w (xs.filter (fun x => !p x))) := by
  have HP : Hid (RetF15 B w (xs.filter (fun x => !p x)) = fun e w' => ∃ A c, e = .returned (.slice A (xs.filter (fun x => !p x)).length c) ∧ Rd w' w'.heap.size A (xs.filter (fun x => !p x)) ∧ Below B w w') := Lib.hid rfl
  have HI := Lib.hid (idx15a A xs n c gx w.heap.size w hl (rd15_own ho hl) hn (Nat.le_refl _) p (fun W hW => hcl W (hW.mono hB)))
  have HL := Lib.hid hl
  have HO := Lib.hid ho
  have HC := Lib.hid hcl
  have hcap := own14_cap ho
  clear hl ho hcl
  go_enter Try.func34, Try.ntmps34
  go_wp2_with fail
  refine HI.out.mono ?_
  rintro e w1 ⟨r, rfl, hf, hb1⟩
  clear HI
  rcases hf with ⟨k, h1, rfl, h2, h3⟩ | ⟨rfl, h2⟩
  · obtain ⟨g, hA, hgB⟩ : ∃ g, A = some ⟨g, 0, none⟩ ∧ B ≤ g := by
      rcases HO.out.2 with ⟨_, h0⟩ | ⟨g, cap, cur, hv, hg, _⟩
      · omega
      · injection hv with hA
        exact ⟨g, hA, hg⟩
    subst hA
    have hi1 : Ib13 w1 g n (nth xs) := (Ib13.of_own HO.out HL.out).below hb1 (HO.out.lt g rfl).2
    have HD0 : Hid (Df15 w B g n xs p k (k + 1) w1) := Lib.hid (by
      have hk := HL.out
      have e1 : (xs.take (k + 1)).filter (fun x => !p x) = xs.take k := by
        rw [filt15_next (by omega), filt15_head (by omega) (fun t ht => by rw [h3 t ht]; rfl), h2]
        simp
      refine ⟨hb1.mono hB, by rw [e1, List.length_take]; omega, nth xs, hi1, fun t ht => ?_, fun t _ _ => rfl⟩
      rw [e1, nth15_take ht])
    have e0 : ¬ (k : Int) = -1 := by omega
    have e1 : ((k : Int) == -1) = false := by simp [e0]
    obtain ⟨j0, hj0⟩ : ∃ j0, k + 1 = j0 := ⟨_, rfl⟩
    have hw0 : IntKind.i64.wrap ((k : Int) + 1) = ((j0 : Nat) : Int) := by rw [IntKind.wrap_i64]; omega
    rw [hj0] at HD0
    have HWD := Lib.hid (show k < j0 ∧ j0 ≤ n by omega)
    clear hi1 h2 h3 hb1 hj0
    go_wp2_with fail
    go_loopw [5, 6] (fun i j wr => ∃ k jj : Nat, i = .int .i64 (k : Int) ∧ j = .int .i64 (jj : Int) ∧ k < jj ∧ jj ≤ n ∧ Hid (Df15 w B g n xs p k jj wr)) (fun _ j _ => n - (intOf j).toNat)
    case atStart => exact ⟨k, j0, rfl, rfl, HWD.out.1, HWD.out.2, HD0⟩
    case round =>
      clear HD0 HWD h1
      obtain ⟨k, jj, rfl, rfl, hkj, hj, HD⟩ := hrel
      by_cases hjn : jj < n
      · obtain ⟨h, hib, hlo, hhi⟩ := HD.out.r
        have q0 := (hib.cells hjn).1
        rw [hhi jj (Nat.le_refl _) hjn] at q0
        obtain ⟨x, hx⟩ : ∃ x, nth xs jj = x := ⟨_, rfl⟩
        rw [hx] at q0
        obtain ⟨bp, hbp⟩ : ∃ y, p x = y := ⟨_, rfl⟩
        have hc := HC.out _ HD.out.b x (by rw [← hx, nth_in (by have := HL.out; omega)]; exact List.getElem_mem _)
        rw [hbp] at hc
        have HCK := Lib.hid hc
        have HX : Hid ((xs.take (jj + 1)).filter (fun x => !p x) = (xs.take jj).filter (fun x => !p x) ++ if bp then [] else [x]) := Lib.hid (by
          rw [filt15_next (by have := HL.out; omega), hx, hbp]
          cases bp <;> rfl)
        have HIB := Lib.hid hib
        have HLO := Lib.hid hlo
        have HHI := Lib.hid hhi
        have HGW := HIB.out.lt
        have i0 : (0 : Int) ≤ (jj : Int) := by omega
        have i1 : (jj : Int) < (n : Int) := by omega
        have i2 : (0 : Int) ≤ (k : Int) := by omega
        have i3 : (k : Int) < (n : Int) := by omega
        clear hx hbp hc hib hlo hhi
        cases bp with
        | true =>
          go_wp2_with fail
          refine HCK.out.mono ?_
          rintro e w2 ⟨rfl, hb2⟩
          have HD2 : Hid (Df15 w B g n xs p k (jj + 1) w2) := Lib.hid (by
            have hX := HX.out
            simp only [if_true, List.append_nil] at hX
            refine ⟨HD.out.b.trans (hb2.mono (by have := HD.out.b.size; omega)), by rw [hX]; exact HD.out.l, h, HIB.out.below hb2 HGW, ?_, fun t h1 h2 => HHI.out t (by omega) h2⟩
            rw [hX]
            exact HLO.out)
          clear HCK hb2 HIB HLO HHI HX HD
          go_wp2_with fail
          go_roundw
          case rel => exact ⟨k, jj + 1, rfl, by go_num, by omega, by omega, HD2⟩
          case measure => simp [intOf]; omega
        | false =>
          go_wp2_with fail
          refine HCK.out.mono ?_
          rintro e w2 ⟨rfl, hb2⟩
          have hi2 := HIB.out.below hb2 HGW
          have f2 := (hi2.cells (k := k) (by omega)).2
          have c2 := (hi2.cells (k := k) (by omega)).1
          have HD2 : Hid (Df15 w B g n xs p (k + 1) (jj + 1) (w2.setCell ⟨g, k, none⟩ (.int .i64 (x : Int)))) := Lib.hid (by
            have hX := HX.out
            simp only [Bool.false_eq_true, if_false] at hX
            refine ⟨(HD.out.b.trans (hb2.mono (by have := HD.out.b.size; omega))).setCell hgB _, by rw [hX, List.length_append, HD.out.l]; rfl, upd h k x, hi2.put (by omega) x, fun t ht => ?_, fun t h1 h2 => ?_⟩
            · rw [hX]
              by_cases htk : t = k
              · subst htk
                rw [upd_at, nth15_at HD.out.l]
              · rw [upd_far _ _ htk, nth15_low (by rw [HD.out.l]; omega)]
                exact HLO.out t (by omega)
            · rw [upd_far _ _ (by omega)]
              exact HHI.out t (by omega) h2)
          clear HCK hb2 HIB HLO HHI HX HD hi2
          go_wp2_with fail
          go_roundw
          case rel => exact ⟨k + 1, jj + 1, by go_num, by go_num, by omega, by omega, HD2⟩
          case measure => simp [intOf]; omega
      · obtain rfl : jj = n := by omega
        have i1 : ¬ (jj : Int) < (jj : Int) := by omega
        obtain ⟨h, hib, hlo, _⟩ := HD.out.r
        have hfl := HD.out.l
        have htk : xs.take jj = xs := List.take_of_length_le (by have := HL.out; omega)
        rw [htk] at hlo hfl
        obtain ⟨B', hcut, hB'⟩ := cutb15 g jj c k (by omega) hcap
        obtain ⟨w3, hclr, hi3, hg3⟩ := clear15 hib (k := k) (by omega) B' (c - k) hB'
        have HB3 : Hid (Below B w w3) := Lib.hid (HD.out.b.grown hg3 (by have := HD.out.b.size; omega) (fun r hr => by cases hr; exact hgB))
        have HRD : Hid (Rd w3 w3.heap.size (some ⟨g, 0, none⟩) (xs.filter (fun x => !p x))) := Lib.hid (by
          have h5 := hi3
          rw [← hfl] at h5
          exact h5.rd (fun t ht => (hlo t (by omega)).symm))
        have HFL := Lib.hid hfl
        have i5 : (0 : Int) ≤ (k : Int) := by omega
        have i6 : (k : Int) ≤ (c : Int) := by omega
        clear hib hlo hfl htk hi3 hg3 HD hB'
        go_wp2_with fail
        go_ret
        rw [HP.out]
        exact ⟨some ⟨g, 0, none⟩, c, by rw [HFL.out]; rfl, HRD.out, HB3.out⟩
  · have HF : Hid (xs.filter (fun x => !p x) = xs) := Lib.hid (by
      rw [List.filter_eq_self]
      intro x hx
      obtain ⟨t, ht, rfl⟩ := List.getElem_of_mem hx
      rw [← nth_in ht, h2 t (by have := HL.out; omega)]
      rfl)
    have HR : Hid (Rd w1 w1.heap.size A xs) := Lib.hid ((rd15_own HO.out HL.out).below hb1 (Nat.le_refl _) |>.more hb1.size)
    have HB1 := Lib.hid (hb1.mono hB)
    clear h2 hb1
    go_wp2_with fail
    go_ret
    rw [HP.out, HF.out]
    exact ⟨A, c, by rw [HL.out]; rfl, HR.out, HB1.out⟩
/-- The used ones of an order. -/
def ord15 (S : Sv14) (os : List Nat) : List Nat := os.filter (fun x => us14 usC S.C (x : Int))
set_option maxHeartbeats 4000000 in
theorem order15 (v : Value) (S : Sv14) (os : List Nat) (w : World) (h : St14 w v S) (hd : Done13 (Ca15 S) S.C.length os) (hf : os.length = S.C.length) :
    Calls Try.prog 11 #[v] w (RetR15 w (ord15 S os)) := by
  obtain ⟨A0, A1, A2, A3, A4, n0, n1, n2, n3, n4, c0, c1, c2, c3, c4, sq, rfl, hs⟩ := h
  have HP : Hid (RetR15 w (ord15 S os) = fun e w' => ∃ A c, e = .returned (.slice A (ord15 S os).length c) ∧ Rd w' w'.heap.size A (ord15 S os) ∧ Below w.heap.size w w') := Lib.hid rfl
  have HCA := Lib.hid (fun W (h : Bx14 w S A0 A1 A2 A3 A4 n0 n1 n2 n3 n4 c0 c1 c2 c3 c4 sq W) => coinArrows14 _ S W h.st)
  have hl0 := hs.l0
  have hm0 := hs.m0
  have HLA : Hid ((cArr14 S S.T.length).length ≤ 1000000) := Lib.hid (by have := cArr14_len S S.T.length; have := hs.l1; have := hs.m1; omega)
  have HOR := Lib.hid (fun W Ad c (hr : Aq W W.heap.size Ad (cArr14 S S.T.length)) => dorder13_any (n0 : Int) n0 (by unfold nn13; omega) Ad _ _ c os W rfl hr HLA.out (by rw [← hl0]; exact hd))
  have hfn : decide (os.length = n0) = true := by rw [← hl0]; simpa using hf
  have HFN := Lib.hid (show os.length = n0 by rw [← hl0]; exact hf)
  have hx0 := Bx14.new hs
  have hxn := hx0.step (Below.refl _ _).drew
  obtain ⟨W1, hW1⟩ : ∃ W, w.alloc (.cells #[.slice A0 n0 c0, .slice A1 n1 c1, .slice A2 n2 c2, .slice A3 n3 c3, .slice A4 n4 c4, .int .i64 sq] 28) = W := ⟨_, rfl⟩
  rw [hW1] at hx0 hxn
  have HXN := Lib.hid hxn
  clear hs hx0 hxn hd hf hl0
  go_enter Try.func11, Try.ntmps11
  obtain ⟨wn, hwn⟩ : ∃ W, W1.drew = W := ⟨_, rfl⟩
  rw [hwn] at HXN
  go_wp2_with fail
  refine wp_region_held_drew (S := Bx14 w S A0 A1 A2 A3 A4 n0 n1 n2 n3 n4 c0 c1 c2 c3 c4 sq) (by kernel_rfl) (by rw [hwn]; exact HXN.out) (fun hHeld => ?_)
  rw [hwn] at hHeld ⊢
  clear hwn
  have HBS := HXN
  refine tk 0 (v := ?_) (fun W hS => ?_) ?_
  rotate_left
  · (go_simp; try with_reducible rfl)
  (try dsimp only [Act.put]); try simp only [pt1, pt2, pt3]
  refine tk 1 (v := ?_) (fun W hS => ?_) ?_
  rotate_left
  · try dsimp only at hS
    have z0 := hS.x.cell 0
    go_simp
    try with_reducible rfl
  (try dsimp only [Act.put]); try simp only [pt1, pt2, pt3]
  refine tk 2 (v := ?_) (fun W hS => ?_) ?_
  rotate_left
  · (go_simp; try with_reducible rfl)
  (try dsimp only [Act.put]); try simp only [pt1, pt2, pt3]
  refine tk 3 (v := ?_) (fun W hS => ?_) ?_
  rotate_left
  · try dsimp only at hS
    have z0 := hS.x.cell 0
    have z1 := hS.x.cell 1
    have z2 := hS.x.cell 2
    have z3 := hS.x.cell 3
    have z4 := hS.x.cell 4
    have z5 := hS.x.cell 5
    go_simp
    try with_reducible rfl
  (try dsimp only [Act.put]); try simp only [pt1, pt2, pt3]
  refine rdy 4 (fun K hK => ?_)
  have HBS0 := HBS
  go_simp
  refine (HCA.out _ HBS0.out).mono ?_
  rintro e wn ⟨Ac, cc, rfl, hqa, hb⟩
  have HBS := Lib.hid (HBS0.out.step hb)
  have HQA := Lib.hid hqa
  clear hqa
  clear hb HBS0
  refine hK.out _ _ HBS.out (fun hHeld => ?_)
  clear hK K
  (try dsimp only [Act.put]); try simp only [pt1, pt2, pt3]
  refine rdy 5 (fun K hK => ?_)
  have HBS0 := HBS
  go_simp
  refine (HOR.out _ Ac cc HQA.out).mono ?_
  rintro e wm ⟨vo, rfl, ho, _, hb⟩
  obtain ⟨WO, hWO⟩ : ∃ W, W = wn := ⟨_, rfl⟩
  rw [← hWO] at HBS0 hb ho
  have HBS := Lib.hid (HBS0.out.step hb)
  have HQO := Lib.hid (ho HFN.out)
  have HB5 := Lib.hid hb
  have HBO := Lib.hid HBS0.out.b
  have HX5 := HBS0
  clear hb HBS0 HQA ho hWO
  refine hK.out _ _ HBS.out (fun hHeld => ?_)
  clear hK K
  (try dsimp only [Act.put]); try simp only [pt1, pt2, pt3]
  refine tk 6 (v := ?_) (fun W hS => ?_) ?_
  rotate_left
  · (go_simp; try with_reducible rfl)
  (try dsimp only [Act.put]); try simp only [pt1, pt2, pt3]
  refine tk 7 (v := ?_) (fun W hS => ?_) ?_
  rotate_left
  · (go_simp; try with_reducible rfl)
  (try dsimp only [Act.put]); try simp only [pt1, pt2, pt3]
  refine tk 8 (v := ?_) (fun W hS => ?_) ?_
  rotate_left
  · (go_simp; try with_reducible rfl)
  (try dsimp only [Act.put]); try simp only [pt1, pt2, pt3]
  refine rdy 9 (fun K hK => ?_)
  go_simp
  refine hK.out _ _ HBS.out (fun hHeld => ?_)
  clear hK K
  (try dsimp only [Act.put]); try simp only [pt1, pt2, pt3]
  refine rdy 10 (fun K hK => ?_)
  go_simp
  refine hK.out _ _ HBS.out (fun hHeld => ?_)
  clear hK K
  (try dsimp only [Act.put]); try simp only [pt1, pt2, pt3]
  refine wpAnyH_done (by kernel_rfl) ?_ _
  clear hHeld
  obtain ⟨Ao, co, rfl, hown⟩ := HQO.out
  have HOW := Lib.hid hown
  clear hown
  have HDL := Lib.hid (del15 Ao os os.length co w.heap.size WO.heap.size wm rfl HOW.out (by have := HFN.out; omega) HB5.out.size (fun (x : Nat) => !us14 usC S.C (x : Int)) (fun W hW x _ => ordc15 (x : Int) w.heap.size S A0 A1 A2 A3 A4 n0 n1 n2 n3 n4 c0 c1 c2 c3 c4 sq W _ (HX5.out.x.below (HB5.out.trans hW) HX5.out.x.lt) (HX5.out.s.step (HB5.out.trans hW)) rfl))
  clear HX5 HBS
  go_wp2_with fail
  refine HDL.out.mono ?_
  rintro e w7 ⟨Af, cf, rfl, hrd, hb7⟩
  have HB7 := Lib.hid (HBO.out.trans ((HB5.out.trans hb7).mono HBO.out.size))
  have HF : Hid (os.filter (fun (x : Nat) => !!us14 usC S.C (x : Int)) = ord15 S os) := Lib.hid (by simp [ord15])
  rw [HF.out] at hrd ⊢
  have HRD := Lib.hid hrd
  clear hrd hb7 HDL
  go_wp2_with fail
  go_ret
  rw [HP.out]
  exact ⟨Af, cf, rfl, HRD.out, HB7.out⟩
end Go.Proofs.Ytljpgfnjaagkaaa
