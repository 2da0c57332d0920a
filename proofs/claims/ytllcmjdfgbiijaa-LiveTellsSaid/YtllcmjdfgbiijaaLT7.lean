/-
  SaidLiveTells, part 7 of 16: what the theorem liveTells_holds reaches.
-/
import Derived.Test.YtllcmjdfgbiijaaLT6
import Derived.RangeFuncCalls
import Derived.Sort.OwnSortedInts
namespace Go.Proofs.Ytllcmjdfgbiijaa
open Go.RowKit
set_option maxRecDepth 100000
/-- The first p arrows are kept: whoever they lead to from a, or from one that is marked, is marked. -/
def Cl13 (l : List (Int × Int)) (n : Nat) (a : Int) (m : Nat → Bool) (p : Nat) : Prop :=
  ∀ q, q < p → ∀ x y : Nat, arr l q = ((x : Int), (y : Int)) → x < n → y < n → ((x : Int) = a ∨ m x = true) → m y = true
theorem Cl13.next {l : List (Int × Int)} {n p : Nat} {a : Int} {m : Nat → Bool} (h : Cl13 l n a m p) (hp : ∀ x y : Nat, arr l p = ((x : Int), (y : Int)) → x < n → y < n → ((x : Int) = a ∨ m x = true) → m y = true) : Cl13 l n a m (p + 1) := by
  intro q hq
  rcases (show q < p ∨ q = p by omega) with h1 | rfl
  · exact h q h1
  · exact hp
theorem arr_mem {l : List (Int × Int)} {n x y : Nat} (h : (x, y) ∈ cut13 n l) : ∃ q, q < l.length ∧ arr l q = ((x : Int), (y : Int)) := by
  obtain ⟨q, hq, he⟩ := List.getElem_of_mem (cut13_mem.1 h).1
  exact ⟨q, hq, by simp [arr, List.getElem?_eq_getElem hq, he]⟩
theorem arr_in {l : List (Int × Int)} {n x y q : Nat} (hq : q < l.length) (h : arr l q = ((x : Int), (y : Int))) (hx : x < n) (hy : y < n) : (x, y) ∈ cut13 n l := by
  refine cut13_mem.2 ⟨?_, hx, hy⟩
  rw [← h]
  have : arr l q = l[q] := by simp [arr, List.getElem?_eq_getElem hq]
  rw [this]
  exact List.getElem_mem hq
theorem Cl13.end_ {l : List (Int × Int)} {n b : Nat} {m : Nat → Bool} (h : Cl13 l n (b : Int) m l.length) (hs : ∀ x, m x = true → ∃ b' : Nat, (b : Int) = (b' : Int) ∧ Way (cut13 n l) b' x) : ∀ y, m y = wayb (cut13 n l) b y :=
  mark13 (fun x hx => by
    obtain ⟨b', h1, h2⟩ := hs x hx
    obtain rfl : b' = b := by omega
    exact h2) (fun x y hx hxy => by
    obtain ⟨q, hq, he⟩ := arr_mem hxy
    obtain ⟨h1, h2⟩ := cut13_lt hxy
    exact h q hq x y he h1 h2 (hx.imp (fun e => by rw [e]) id))
theorem Bb13.step {w w' : World} {g n : Nat} {m : Nat → Bool} (q : Bb13 w g n m) (hb : Below w.heap.size w w') : Bb13 w' g n m := by
  obtain ⟨cs, h1, h2⟩ := q
  exact ⟨cs, h1.below hb h1.lt, h2⟩
theorem made_b13 (W : World) (n : Nat) : Bb13 (W.alloc (.cells (madeCells #[.bool false] n) 4)) W.heap.size n (fun _ => false) := made13 W 4 n (.bool false)
def bn13 (b : Bool) : Nat := if b then 1 else 0
/-- What the document's Reach says. -/
def RetR13 (w : World) (n : Nat) (l : List (Int × Int)) (a : Int) (e : Ending) (w' : World) : Prop :=
  ∃ g T, e = .returned (.slice (some ⟨g, 0, none⟩) n n) ∧ Rv w' w'.heap.size (some ⟨g, 0, none⟩) (bls T n) ∧ (∀ b : Nat, a = (b : Int) → ∀ y, T y = wayb (cut13 n l) b y) ∧ Below w.heap.size w w'
set_option maxHeartbeats 8000000 in
theorem rreach13_any (n : Nat) (Ad : Option Addr) (l : List (Int × Int)) (m c : Nat) (a : Int) (w : World) (hl : l.length = m) (hr : Aq w w.heap.size Ad l) (hm : m ≤ 1000000) (hn : n ≤ 1000000) :
    Calls Try.prog 36 #[.int .i64 (n : Int), .slice Ad m c, .int .i64 a] w (RetR13 w n l a) := by
  have HP : Hid (RetR13 w n l a = fun e w' => ∃ g T, e = .returned (.slice (some ⟨g, 0, none⟩) n n) ∧ Rv w' w'.heap.size (some ⟨g, 0, none⟩) (bls T n) ∧ (∀ b : Nat, a = (b : Int) → ∀ y, T y = wayb (cut13 n l) b y) ∧ Below w.heap.size w w') := Lib.hid rfl
  have HR := Lib.hid hr
  have HL := Lib.hid hl
  have hmk := make_bools13 n hn
  have HM0 := Lib.hid (made_b13 w n)
  have HB0 := Lib.hid (b1' w (.cells (madeCells #[.bool false] n) 4))
  have hun0 := un13_le (fun _ => false) n
  clear hr hl
  go_enter Try.func36, Try.ntmps36
  go_wp2_with fail
  clear hmk
  go_loopg [8] (n + 2) (fun kx v wr => ∃ (K : Nat) (mk : Nat → Bool) (ag : Bool), K = kx ∧ v = .bool ag ∧ un13 mk n + bn13 ag ≤ K ∧ Hid (Bb13 wr w.heap.size n mk) ∧ Hid (∀ x, mk x = true → ∃ b : Nat, a = (b : Int) ∧ Way (cut13 n l) b x) ∧ Hid (ag = false → Cl13 l n a mk m) ∧ Hid (Below w.heap.size w wr))
  case atStart => exact ⟨n + 2, _, true, rfl, rfl, by simp only [bn13, if_true]; omega, HM0, Lib.hid (fun x h => by cases h), Lib.hid (fun h => by cases h), HB0⟩
  case round =>
    clear HM0 HB0 hun0
    obtain ⟨K, mk, ag, rfl, rfl, hme, HM, HS, HC, HB⟩ := hrel
    cases ag with
    | false =>
      have HRV := Lib.hid (HM.out.rv (T := mk) (fun _ => rfl))
      have HCL := Lib.hid (HC.out rfl)
      go_wp2_with fail
      go_ret
      rw [HP.out]
      refine ⟨w.heap.size, mk, rfl, HRV.out, fun b hb => ?_, HB.out⟩
      subst hb
      have h1 := HCL.out
      have h2 := HL.out
      rw [← h2] at h1
      exact h1.end_ HS.out
    | true =>
      have hme2 : un13 mk n + 1 ≤ K := hme
      clear hme HC
      go_wp2_with fail
      go_loopw [8, 9] (fun v iv wi => ∃ (p : Nat) (mk2 : Nat → Bool) (ag : Bool), v = .bool ag ∧ iv = .int .i64 (p : Int) ∧ p ≤ m ∧ un13 mk2 n + bn13 ag + 1 ≤ K ∧ Hid (Bb13 wi w.heap.size n mk2) ∧ Hid (∀ x, mk2 x = true → ∃ b : Nat, a = (b : Int) ∧ Way (cut13 n l) b x) ∧ Hid (ag = false → Cl13 l n a mk2 p) ∧ Hid (Below w.heap.size w wi)) (fun _ iv _ => m - (intOf iv).toNat)
      case atStart => exact ⟨0, mk, false, rfl, rfl, by omega, by simp [bn13]; omega, HM, HS, Lib.hid (fun _ q hq => by omega), HB⟩
      case round =>
        clear HM HS HB hme2
        obtain ⟨p, mk2, ag, rfl, rfl, hp, hme, HM, HS, HC, HB⟩ := hrel
        by_cases hpm : p < m
        · have hpl : p < l.length := by have := HL.out; omega
          obtain ⟨ba, o, hA, _, c0, c1⟩ := Aq.at_ (Rv.below HR.out HB.out (Nat.le_refl _)) hpl
          subst hA
          obtain ⟨fi, hfi⟩ : ∃ x, (arr l p).1 = x := ⟨_, rfl⟩
          obtain ⟨ti, hti⟩ : ∃ x, (arr l p).2 = x := ⟨_, rfl⟩
          rw [hfi] at c0
          rw [hti] at c1
          have HAR : Hid (arr l p = (fi, ti)) := Lib.hid (by rw [← hfi, ← hti])
          have hb1 := b1' wr (.cells #[.int .i64 fi, .int .i64 ti] 53)
          have hbk := Blk.new wr 53 #[.int .i64 fi, .int .i64 ti]
          have x0 := hbk.cell 0
          have x1 := hbk.cell 1
          have HM1 := Lib.hid (HM.out.step hb1)
          have HB1 := Lib.hid (HB.out.trans (hb1.mono HB.out.size))
          have i0 : (0 : Int) ≤ (p : Int) := by omega
          have i1 : (p : Int) < (m : Int) := by omega
          clear hfi hti hb1 hbk
          by_cases hf0 : fi < 0
          · have HC1 : Hid (ag = false → Cl13 l n a mk2 (p + 1)) := Lib.hid (fun h => (HC.out h).next (fun x y he hx hy hh => by
              rw [HAR.out] at he
              injection he with h1 h2
              omega))
            go_wp2_with fail
            go_roundw
            case rel => exact ⟨p + 1, mk2, ag, rfl, by go_num, by omega, hme, HM1, HS, HC1, HB1⟩
            case measure => simp [intOf]; omega
          · by_cases hfn : (n : Int) ≤ fi
            · have HC1 : Hid (ag = false → Cl13 l n a mk2 (p + 1)) := Lib.hid (fun h => (HC.out h).next (fun x y he hx hy hh => by
                rw [HAR.out] at he
                injection he with h1 h2
                omega))
              go_wp2_with fail
              go_roundw
              case rel => exact ⟨p + 1, mk2, ag, rfl, by go_num, by omega, hme, HM1, HS, HC1, HB1⟩
              case measure => simp [intOf]; omega
            · by_cases ht0 : ti < 0
              · have HC1 : Hid (ag = false → Cl13 l n a mk2 (p + 1)) := Lib.hid (fun h => (HC.out h).next (fun x y he hx hy hh => by
                  rw [HAR.out] at he
                  injection he with h1 h2
                  omega))
                go_wp2_with fail
                go_roundw
                case rel => exact ⟨p + 1, mk2, ag, rfl, by go_num, by omega, hme, HM1, HS, HC1, HB1⟩
                case measure => simp [intOf]; omega
              · by_cases htn : (n : Int) ≤ ti
                · have HC1 : Hid (ag = false → Cl13 l n a mk2 (p + 1)) := Lib.hid (fun h => (HC.out h).next (fun x y he hx hy hh => by
                    rw [HAR.out] at he
                    injection he with h1 h2
                    omega))
                  go_wp2_with fail
                  go_roundw
                  case rel => exact ⟨p + 1, mk2, ag, rfl, by go_num, by omega, hme, HM1, HS, HC1, HB1⟩
                  case measure => simp [intOf]; omega
                · obtain ⟨f, rfl⟩ : ∃ f : Nat, fi = (f : Int) := ⟨fi.toNat, by omega⟩
                  obtain ⟨t, rfl⟩ : ∃ t : Nat, ti = (t : Int) := ⟨ti.toNat, by omega⟩
                  have hfN : f < n := by omega
                  have htN : t < n := by omega
                  obtain ⟨mt, mtf⟩ := HM1.out.cells htN
                  obtain ⟨mf, mff⟩ := HM1.out.cells hfN
                  have t0 : (0 : Int) ≤ (t : Int) := by omega
                  have t1 : (t : Int) < (n : Int) := by omega
                  have f0 : (0 : Int) ≤ (f : Int) := by omega
                  have f1 : (f : Int) < (n : Int) := by omega
                  cases hmt : mk2 t with
                  | true =>
                    rw [hmt] at mt
                    have HC1 : Hid (ag = false → Cl13 l n a mk2 (p + 1)) := Lib.hid (fun h => (HC.out h).next (fun x y he hx hy hh => by
                      rw [HAR.out] at he
                      injection he with h1 h2
                      obtain rfl : t = y := by omega
                      exact hmt))
                    clear hmt mf mff mtf
                    go_wp2_with fail
                    go_roundw
                    case rel => exact ⟨p + 1, mk2, ag, rfl, by go_num, by omega, hme, HM1, HS, HC1, HB1⟩
                    case measure => simp [intOf]; omega
                  | false =>
                    rw [hmt] at mt
                    have hun := un13_mark htN hmt
                    have HIN := Lib.hid (arr_in hpl HAR.out hfN htN)
                    by_cases hfa : (f : Int) = a
                    · have HM2 := Lib.hid (HM1.out.put htN true)
                      have HB2 := Lib.hid (HB1.out.setCell (p := ⟨w.heap.size, t, none⟩) (Nat.le_refl _) (.bool true))
                      have HS2 : Hid (∀ x, upd mk2 t true x = true → ∃ b : Nat, a = (b : Int) ∧ Way (cut13 n l) b x) := Lib.hid (fun x hx => by
                        by_cases e : x = t
                        · subst e
                          exact ⟨f, hfa.symm, .one HIN.out⟩
                        · rw [upd_far _ _ e] at hx
                          exact HS.out x hx)
                      have hbn : bn13 ag ≤ 1 := by unfold bn13; split <;> omega
                      subst hfa
                      clear hmt mf mff
                      go_wp2_with fail
                      go_roundw
                      case rel => exact ⟨p + 1, _, true, rfl, by go_num, by omega, by simp only [bn13, if_true]; omega, HM2, HS2, Lib.hid (fun h => by cases h), HB2⟩
                      case measure => simp [intOf]; omega
                    · have hfa2 : ((f : Int) == a) = false := by simp [hfa]
                      cases hmf : mk2 f with
                      | true =>
                        rw [hmf] at mf
                        have HM2 := Lib.hid (HM1.out.put htN true)
                        have HB2 := Lib.hid (HB1.out.setCell (p := ⟨w.heap.size, t, none⟩) (Nat.le_refl _) (.bool true))
                        have HS2 : Hid (∀ x, upd mk2 t true x = true → ∃ b : Nat, a = (b : Int) ∧ Way (cut13 n l) b x) := Lib.hid (fun x hx => by
                          by_cases e : x = t
                          · subst e
                            obtain ⟨b, h1, h2⟩ := HS.out f hmf
                            exact ⟨b, h1, h2.step HIN.out⟩
                          · rw [upd_far _ _ e] at hx
                            exact HS.out x hx)
                        clear hmt hmf mff
                        go_wp2_with fail
                        go_roundw
                        case rel => exact ⟨p + 1, _, true, rfl, by go_num, by omega, by simp only [bn13, if_true]; omega, HM2, HS2, Lib.hid (fun h => by cases h), HB2⟩
                        case measure => simp [intOf]; omega
                      | false =>
                        rw [hmf] at mf
                        have HC1 : Hid (ag = false → Cl13 l n a mk2 (p + 1)) := Lib.hid (fun h => (HC.out h).next (fun x y he hx hy hh => by
                          rw [HAR.out] at he
                          injection he with h1 h2
                          obtain rfl : f = x := by omega
                          rcases hh with h3 | h3
                          · exact absurd h3 hfa
                          · rw [hmf] at h3
                            cases h3))
                        clear hmt hmf mff
                        go_wp2_with fail
                        go_roundw
                        case rel => exact ⟨p + 1, mk2, ag, rfl, by go_num, by omega, hme, HM1, HS, HC1, HB1⟩
                        case measure => simp [intOf]; omega
        · obtain rfl : p = m := by omega
          have p1 : ¬ (p : Int) < (p : Int) := by omega
          go_wp2_with fail
          go_roundg (un13 mk2 n + bn13 ag)
          case measure => omega
          case rel => exact ⟨_, mk2, ag, rfl, rfl, Nat.le_refl _, HM, HS, HC, HB⟩
set_option maxHeartbeats 4000000 in
theorem rring13_any (n : Nat) (Ad : Option Addr) (l : List (Int × Int)) (m c : Nat) (os : List Nat) (w : World) (hl : l.length = m) (hr : Aq w w.heap.size Ad l) (hm : m ≤ 1000000) (hn : n ≤ 1000000) (hd : Done13 (cut13 n l) n os) :
    Calls Try.prog 25 #[.int .i64 (n : Int), .slice Ad m c] w fun e w' => e = .returned (.bool (!decide (os.length = n))) ∧ Below w.heap.size w w' := by
  have HR := Lib.hid hr
  have HL := Lib.hid hl
  have HIN : Hid (In13 (cut13 n l) n) := Lib.hid (fun p hp => cut13_lt hp)
  have HRG := Lib.hid (hd.ring HIN.out)
  have hle := hd.1.len
  have HC := Lib.hid (fun (i : Nat) (W : World) (hb : Below w.heap.size w W) => rreach13_any n Ad l m c (i : Int) W hl (Rv.step hr hb) hm hn)
  obtain ⟨b, hbb⟩ : ∃ b, (!decide (os.length = n)) = b := ⟨_, rfl⟩
  have HBB := Lib.hid hbb
  have HLE := Lib.hid hle
  rw [hbb]
  clear hr hl hd hbb hle
  go_enter Try.func25, Try.ntmps25
  go_wp2_with fail
  go_loopw [5] (fun iv wr => ∃ i : Nat, iv = .int .i64 (i : Int) ∧ i ≤ n ∧ Hid (∀ j, j < i → wayb (cut13 n l) j j = false) ∧ Hid (Below w.heap.size w wr)) (fun iv _ => n - (intOf iv).toNat)
  case atStart => exact ⟨0, rfl, by omega, Lib.hid (fun j h => by omega), Lib.hid (Below.refl _ _)⟩
  case round =>
    obtain ⟨i, rfl, hi, HF, HB⟩ := hrel
    by_cases hin : i < n
    · have HCI := Lib.hid (HC.out i wr HB.out)
      have i0 : (0 : Int) ≤ (i : Int) := by omega
      have i1 : (i : Int) < (n : Int) := by omega
      go_wp2_with fail
      refine HCI.out.mono ?_
      rintro e w1 ⟨g, T, rfl, hrv, hT, hb1⟩
      obtain ⟨a, o, hA, _, ca⟩ := bls_at hrv hin
      injection hA with hA
      injection hA with hA1 hA2
      subst hA1 hA2
      rw [Nat.zero_add] at ca
      have hTi := hT i rfl i
      have HB1 := Lib.hid (HB.out.trans (hb1.mono HB.out.size))
      clear HCI hrv hT hb1
      cases ht : T i with
      | true =>
        rw [ht] at ca hTi
        have HBT : Hid (b = true) := Lib.hid (by
          have h1 := HRG.out.1 ⟨i, wayb_yes.1 hTi.symm⟩
          rw [← HBB.out, decide_eq_false (by omega)]
          rfl)
        clear ht hTi
        go_wp2_with fail
        go_ret
        exact ⟨by rw [HBT.out]; rfl, HB1.out⟩
      | false =>
        rw [ht] at ca hTi
        have HF1 : Hid (∀ j, j < i + 1 → wayb (cut13 n l) j j = false) := Lib.hid (fun j hj => by
          rcases (show j < i ∨ j = i by omega) with h | rfl
          · exact HF.out j h
          · exact hTi.symm)
        clear ht hTi
        go_wp2_with fail
        go_roundw
        case rel => exact ⟨i + 1, by go_num, by omega, HF1, HB1⟩
        case measure => simp [intOf]; omega
    · obtain rfl : i = n := by omega
      have HBF : Hid (b = false) := Lib.hid (by
        have h1 : ¬ Rng13 (cut13 i l) := by
          rintro ⟨j, hj⟩
          have h2 := HF.out j (hj.lt HIN.out).1
          rw [wayb_yes.2 hj] at h2
          cases h2
        have h3 : ¬ os.length < i := fun h => h1 (HRG.out.2 h)
        rw [← HBB.out, decide_eq_true (by have := HLE.out; omega)]
        rfl)
      have i1 : ¬ (i : Int) < (i : Int) := by omega
      go_wp2_with fail
      go_ret
      exact ⟨by rw [HBF.out]; rfl, HB.out⟩
end Go.Proofs.Ytllcmjdfgbiijaa
namespace Go.Proofs.Ytllcmjdfgbiijaa
open Go.RowKit
set_option maxRecDepth 100000
/-- The arrows of coins, of the first k tickets. -/
def cArr14 (S : Sv14) : Nat → List (Int × Int)
  | 0 => []
  | k + 1 => cArr14 S k ++ if (gt14 S.T k).u = true ∧ (gt14 S.T k).k = 2 then [((gt14 S.T k).c, (gt14 S.T k).t)] else []
/-- The arrows of threads, of the first k of them. -/
def tArr14 (S : Sv14) : Nat → List (Int × Int)
  | 0 => []
  | k + 1 => tArr14 S k ++ if (gt14 S.H k).s = 4 then [((k : Int), (gt14 S.H k).f)] else if (gt14 S.H k).s = 6 then [((k : Int), (at14 usL S.L (gt14 S.H k).f).h)] else []
theorem cArr14_len (S : Sv14) (k : Nat) : (cArr14 S k).length ≤ k := by
  induction k with
  | zero => exact Nat.le_refl _
  | succ k ih => rw [cArr14, List.length_append]; split <;> simp <;> omega
theorem tArr14_len (S : Sv14) (k : Nat) : (tArr14 S k).length ≤ k := by
  induction k with
  | zero => exact Nat.le_refl _
  | succ k ih => rw [tArr14, List.length_append]; split <;> try split
                 all_goals simp <;> omega
theorem info14A : (Try.prog.info? 75).map (fun i => (i.zero, i.size, i.bytes)) = some (some (.agg #[.int .i64 0, .int .i64 0]), 2, 16) := by kernel_rfl
theorem aq14_own {w : World} {base : Nat} {e : TypeId} {A : Option Addr} {c n : Nat} {l : List (Int × Int)} (h : w.ownsRow base e 2 (.slice A n c) n (acs l)) : Aq w w.heap.size A l := by
  intro hx
  have hl := h.1
  have hpos : 0 < (acs l).length := List.length_pos_iff.2 hx
  rcases h.2 with ⟨_, h1⟩ | ⟨g, cap, cur, hv, _, hh, _⟩
  · subst h1
    rw [hl, Nat.zero_mul] at hpos
    omega
  · have hA : A = some ⟨g, 0, none⟩ := by injection hv
    subst hA
    refine ⟨g, 0, rfl, (h.lt g rfl).2, fun i v hk => ?_⟩
    have hc := h.cells (g := g) rfl i _ hk
    rw [Go.WideShapes.add_plain] at hc
    exact hc
/-- A list of arrows is answered. -/
def RetAq14 (w : World) (l : List (Int × Int)) (e : Ending) (w' : World) : Prop := ∃ A c, e = .returned (.slice A l.length c) ∧ Aq w' w'.heap.size A l ∧ Below w.heap.size w w'
/-- Between two rounds: the row of arrows so far. -/
structure Ar14 (w : World) (S : Sv14) (A0 A1 A2 A3 A4 : Option Addr) (n0 n1 n2 n3 n4 c0 c1 c2 c3 c4 : Nat) (sq : Int) (A : Option Addr) (m c : Nat) (l : List (Int × Int)) (W : World) : Prop where
  b : Bx14 w S A0 A1 A2 A3 A4 n0 n1 n2 n3 n4 c0 c1 c2 c3 c4 sq W
  o : W.ownsRow (w.heap.size + 1) 75 2 (.slice A m c) m (acs l)
  l : l.length = m
theorem Ar14.step {w : World} {S : Sv14} {A0 A1 A2 A3 A4 : Option Addr} {n0 n1 n2 n3 n4 c0 c1 c2 c3 c4 : Nat} {sq : Int} {A : Option Addr} {m c : Nat} {l : List (Int × Int)} {W W' : World} (h : Ar14 w S A0 A1 A2 A3 A4 n0 n1 n2 n3 n4 c0 c1 c2 c3 c4 sq A m c l W) (hb : Below W.heap.size W W') : Ar14 w S A0 A1 A2 A3 A4 n0 n1 n2 n3 n4 c0 c1 c2 c3 c4 sq A m c l W' :=
  ⟨h.b.step hb, own12_keep2 h.o hb, h.l⟩
theorem Ar14.congr {w : World} {S : Sv14} {A0 A1 A2 A3 A4 : Option Addr} {n0 n1 n2 n3 n4 c0 c1 c2 c3 c4 : Nat} {sq : Int} {A : Option Addr} {m c : Nat} {l l2 : List (Int × Int)} {W : World} (h : Ar14 w S A0 A1 A2 A3 A4 n0 n1 n2 n3 n4 c0 c1 c2 c3 c4 sq A m c l W) (e : l = l2) : Ar14 w S A0 A1 A2 A3 A4 n0 n1 n2 n3 n4 c0 c1 c2 c3 c4 sq A m c l2 W := e ▸ h
/-- An arrow is appended. -/
theorem Ar14.push {w : World} {S : Sv14} {A0 A1 A2 A3 A4 : Option Addr} {n0 n1 n2 n3 n4 c0 c1 c2 c3 c4 : Nat} {sq : Int} {A : Option Addr} {m c : Nat} {l : List (Int × Int)} {W : World} (hs : SA14 w S A0 A1 A2 A3 A4 n0 n1 n2 n3 n4 c0 c1 c2 c3 c4 sq) (h : Ar14 w S A0 A1 A2 A3 A4 n0 n1 n2 n3 n4 c0 c1 c2 c3 c4 sq A m c l W) (x y : Int) (hm : m ≤ 2000) :
    ∃ Az cz W2, (Builtin.append_ #[64, 64] 64 #[.slice A m c, .slice (some ⟨W.heap.size, 0, none⟩) 1 1]).run Try.prog (W.alloc (.cells #[.int .i64 x, .int .i64 y] 75)) = .ok (.slice Az (m + 1) cz) W2 ∧ Ar14 w S A0 A1 A2 A3 A4 n0 n1 n2 n3 n4 c0 c1 c2 c3 c4 sq Az (m + 1) cz (l ++ [(x, y)]) W2 := by
  have hbz := b1' W (.cells #[.int .i64 x, .int .i64 y] 75)
  have hkz := Blk.new W 75 #[.int .i64 x, .int .i64 y]
  have h1 := h.step hbz
  have hsy : (W.alloc (.cells #[.int .i64 x, .int .i64 y] 75)).heap.size = W.heap.size + 1 := by simp
  obtain ⟨Y, hY⟩ : ∃ Y, W.alloc (.cells #[.int .i64 x, .int .i64 y] 75) = Y := ⟨_, rfl⟩
  rw [hY] at hbz hkz h1 hsy ⊢
  have hrv : Rv Y Y.heap.size (some ⟨W.heap.size, 0, none⟩) [.int .i64 x, .int .i64 y] := fun _ => ⟨W.heap.size, 0, rfl, by omega, fun j v hj => by rw [Nat.zero_add, hkz.cell]; simpa using hj⟩
  have hxl := h1.b.x.lt
  obtain ⟨Az, cz, W2, hrun, hown, hg⟩ := run_append_14 (P := Try.prog) Y (w.heap.size + 1) 64 64 75 _ 2 16 Try.underlying64 info14A rfl (by omega) (by omega) _ m _ h1.o Y.heap.size (some ⟨W.heap.size, 0, none⟩) [.int .i64 x, .int .i64 y] 1 1 rfl hrv (by simp [Value.oneCell']) (by omega) (by omega)
  have hB : Below w.heap.size w W2 := h1.b.b.grown hg h1.b.b.size (fun r hr => by have := (h1.o.lt r hr).1; omega)
  refine ⟨Az, cz, W2, hrun, ⟨hB, h1.b.x.grown hg (fun e => by have := (h1.o.lt _ e.symm).1; omega), hs.step hB⟩, ?_, by simp [h.l]⟩
  rw [acs_append]
  exact hown
set_option maxHeartbeats 2000000 in
theorem coinArrows14 (v : Value) (S : Sv14) (w : World) (h : St14 w v S) : Calls Try.prog 45 #[v] w (RetAq14 w (cArr14 S S.T.length)) := by
  obtain ⟨A0, A1, A2, A3, A4, n0, n1, n2, n3, n4, c0, c1, c2, c3, c4, sq, rfl, hs⟩ := h
  have HP : Hid (RetAq14 w (cArr14 S S.T.length) = fun e w' => ∃ A c, e = .returned (.slice A (cArr14 S n1).length c) ∧ Aq w' w'.heap.size A (cArr14 S n1) ∧ Below w.heap.size w w') := Lib.hid (by rw [hs.l1]; rfl)
  have HX0 : Hid (Ar14 w S A0 A1 A2 A3 A4 n0 n1 n2 n3 n4 c0 c1 c2 c3 c4 sq none 0 0 (cArr14 S 0) (w.alloc (.cells #[.slice A0 n0 c0, .slice A1 n1 c1, .slice A2 n2 c2, .slice A3 n3 c3, .slice A4 n4 c4, .int .i64 sq] 28))) := Lib.hid ⟨Bx14.new hs, World.ownsRow_nil _ _ _ _, rfl⟩
  have HS := Lib.hid hs
  have hnb := hs.m1
  have t1 := HX0.out.b.x.cell 1
  clear hs
  go_enter Try.func45, Try.ntmps45
  go_wp2_with fail
  clear t1
  go_loopw [2, 8] (fun v i wr => ∃ (k : Nat) (A : Option Addr) (m c : Nat), v = .slice A m c ∧ i = .int .i64 (k : Int) ∧ k ≤ n1 ∧ Hid (Ar14 w S A0 A1 A2 A3 A4 n0 n1 n2 n3 n4 c0 c1 c2 c3 c4 sq A m c (cArr14 S k) wr)) (fun _ i _ => n1 - (intOf i).toNat)
  case atStart => exact ⟨0, none, 0, 0, rfl, rfl, by omega, HX0⟩
  case round =>
    obtain ⟨k, A, m, c, rfl, rfl, hk, HW⟩ := hrel
    by_cases hkn : k < n1
    · skip
      obtain ⟨a, of, hA, hab, hq⟩ := Lq.at_ len14T (by omega) HW.out.b.s.r1 (show k < S.T.length by rw [HW.out.b.s.l1]; omega)
      have HAE := Lib.hid hA
      obtain ⟨x, hx⟩ : ∃ x, gt14 S.T k = x := ⟨_, rfl⟩
      rw [hx] at hq
      obtain ⟨xu, xc, xa, xk, xt, xo⟩ := x
      have e0 : wr.cell? ⟨a, of + k * 6, none⟩ = some (.bool xu) := hq 0 _ rfl
      have e1 : wr.cell? ⟨a, of + k * 6 + 1, none⟩ = some (.int .i64 xc) := hq 1 _ rfl
      have e2 : wr.cell? ⟨a, of + k * 6 + 2, none⟩ = some (.int .i64 xa) := hq 2 _ rfl
      have e3 : wr.cell? ⟨a, of + k * 6 + 3, none⟩ = some (.int .i64 xk) := hq 3 _ rfl
      have e4 : wr.cell? ⟨a, of + k * 6 + 4, none⟩ = some (.int .i64 xt) := hq 4 _ rfl
      have e5 : wr.cell? ⟨a, of + k * 6 + 5, none⟩ = some (.bool xo) := hq 5 _ rfl
      have i0 : (0 : Int) ≤ (k : Int) := by omega
      have i1 : (k : Int) < (n1 : Int) := by omega
      have HV := Lib.hid (Ar14.step HW.out (b1' wr (.cells #[.bool xu, .int .i64 xc, .int .i64 xa, .int .i64 xk, .int .i64 xt, .bool xo] 35)))
      have hv := Blk.new wr 35 #[.bool xu, .int .i64 xc, .int .i64 xa, .int .i64 xk, .int .i64 xt, .bool xo]
      have v0 := hv.cell 0
      have v1 := hv.cell 1
      have v2 := hv.cell 2
      have v3 := hv.cell 3
      have v4 := hv.cell 4
      have v5 := hv.cell 5
      have HVB := Lib.hid hv
      have HXE := Lib.hid hx
      have p0 := HV.out.b.x.cell 0
      have p1 := HV.out.b.x.cell 1
      have p2 := HV.out.b.x.cell 2
      have p3 := HV.out.b.x.cell 3
      have p4 := HV.out.b.x.cell 4
      have p5 := HV.out.b.x.cell 5
      obtain ⟨X, hX⟩ : ∃ X, wr.alloc (.cells #[.bool xu, .int .i64 xc, .int .i64 xa, .int .i64 xk, .int .i64 xt, .bool xo] 35) = X := ⟨_, rfl⟩
      rw [hX] at HV HVB v0 v1 v2 v3 v4 v5 p0 p1 p2 p3 p4 p5
      clear hv hq hx hab
      subst hA
      have hmk : m ≤ k := by rw [← HW.out.l]; exact cArr14_len S k
      cases xu with
      | false =>
        have HN := Lib.hid (HV.out.congr (l2 := cArr14 S (k + 1)) (by rw [cArr14, HXE.out, if_neg (by simp), List.append_nil]))
        go_wp2_with fail
        go_roundw
        case rel => exact ⟨k + 1, A, m, c, rfl, by go_num, by omega, HN⟩
        case measure => simp [intOf]; omega
      | true =>
        by_cases k2 : xk = 2
        · subst k2
          have HE : Hid (cArr14 S (k + 1) = cArr14 S k ++ [(xc, xt)]) := Lib.hid (by rw [cArr14, HXE.out, if_pos (by simp)])
          obtain ⟨Az, cz, W2, hrun, har⟩ := HV.out.push HS.out xc xt (by omega)
          have HRUN := Lib.hid hrun
          have HAR := Lib.hid (har.congr HE.out.symm)
          clear hrun har
          go_wp2_with (at_builtin; go_loud (refine wpList_append_14 _ rfl (.tmp 19) (.tmp 25) 64 rfl _ _ _ _ rfl rfl HRUN.out ?_))
          go_roundw
          case rel => exact ⟨k + 1, Az, m + 1, cz, rfl, by go_num, by omega, HAR⟩
          case measure => simp [intOf]; omega
        · have HN := Lib.hid (HV.out.congr (l2 := cArr14 S (k + 1)) (by rw [cArr14, HXE.out, if_neg (by simp [k2]), List.append_nil]))
          go_wp2_with fail
          go_roundw
          case rel => exact ⟨k + 1, A, m, c, rfl, by go_num, by omega, HN⟩
          case measure => simp [intOf]; omega
    · obtain rfl : k = n1 := by omega
      have HL := Lib.hid HW.out.l
      have h1 : ¬ (k : Int) < (k : Int) := by omega
      go_wp2_with fail
      go_ret
      rw [HP.out]
      exact ⟨A, c, by rw [HL.out]; rfl, aq14_own HW.out.o, HW.out.b.b⟩
end Go.Proofs.Ytllcmjdfgbiijaa
namespace Go.Proofs.Ytllcmjdfgbiijaa
open Go.RowKit Go.Shelf Go.Sort
set_option maxRecDepth 100000
/-- Sorted. -/
def srt14 (zs : List Int) : List Int := zs.mergeSort fun x y => decide (x ≤ y)
theorem srt14_len (zs : List Int) : (srt14 zs).length = zs.length := by simp [srt14]
instance (S : Sv14) (i : Nat) (t : Th14) : Decidable (Queues14 S i t) := by unfold Queues14; infer_instance
/-- Who ought to stand in the Queue, of the first k. -/
def want14 (S : Sv14) : Nat → List Int
  | 0 => []
  | k + 1 => want14 S k ++ if Queues14 S k (gt14 S.H k) then [(k : Int)] else []
theorem want14_len (S : Sv14) (k : Nat) : (want14 S k).length ≤ k := by
  induction k with
  | zero => exact Nat.le_refl _
  | succ k ih => rw [want14, List.length_append]; split <;> simp <;> omega
/-- Is a thread Calling one that is Listening? -/
def Heard14 (S : Sv14) (t : Th14) : Prop := t.s = 4 ∧ (at14 usH S.H t.f).s = 5
def Queue14 (S : Sv14) : Prop := S.Q.length ≤ 32 ∧ (∀ j, j < S.H.length → Queues14 S j (gt14 S.H j) → ¬ Heard14 S (gt14 S.H j)) ∧ srt14 S.Q = want14 S S.H.length
end Go.Proofs.Ytllcmjdfgbiijaa
namespace Go.Proofs.Ytllcmjdfgbiijaa
open Go.RowKit
set_option maxRecDepth 100000
/-- There is no ring: all are told. -/
def Free14R (n : Nat) (l : List (Int × Int)) : Prop := ∃ os, Done13 (cut13 n l) n os ∧ os.length = n
theorem free14R_iff {n : Nat} {l : List (Int × Int)} {os : List Nat} (h : Done13 (cut13 n l) n os) : Free14R n l ↔ os.length = n := by
  constructor
  · rintro ⟨zs, h1, h2⟩
    rw [h.same h1]
    exact h2
  · exact fun e => ⟨os, h, e⟩
/-- A state may be. -/
def Fine14 (S : Sv14) : Prop := 1 ≤ S.q ∧ S.q ≤ 1000 ∧ Tidies14 S ∧ us14 usC S.C 0 = true ∧ Tickets14 S ∧ Threads14 S ∧ Locks14 S ∧ Queue14 S ∧ Free14R S.C.length (cArr14 S S.T.length) ∧ Free14R S.H.length (tArr14 S S.H.length)
end Go.Proofs.Ytllcmjdfgbiijaa
namespace Go.Proofs.Ytllcmjdfgbiijaa
open Go.RowKit
set_option maxRecDepth 100000
theorem in13_cut (n : Nat) (l : List (Int × Int)) : In13 (cut13 n l) n := fun _ hp => cut13_lt hp
theorem free15_ring {n : Nat} {l : List (Int × Int)} : Free14R n l ↔ ¬ Rng13 (cut13 n l) := by
  obtain ⟨os, hd⟩ := done13_ex (cut13 n l) n
  rw [free14R_iff hd, hd.ring (in13_cut n l)]
  have := hd.1.len
  omega
/-- The arrows of coins. -/
def Ca15 (S : Sv14) : List (Nat × Nat) := cut13 S.C.length (cArr14 S S.T.length)
/-- One ticket funds coin k. -/
def Bck15 (S : Sv14) (k j : Nat) : Prop := j < S.T.length ∧ (gt14 S.T j).u = true ∧ (gt14 S.T j).k = 2 ∧ (gt14 S.T j).t = (k : Int)
end Go.Proofs.Ytllcmjdfgbiijaa
namespace Go.Proofs.Ytllcmjdfgbiijaa
open Go.RowKit
set_option maxRecDepth 100000
/-- For whom a thread waits. -/
def nxt16 (S : Sv14) (i : Int) : Int := if (at14 usH S.H i).s = 4 then (at14 usH S.H i).f else if (at14 usH S.H i).s = 6 then (at14 usL S.L (at14 usH S.H i).f).h else -1
/-- The arrows of threads. -/
def Ta16 (S : Sv14) : List (Nat × Nat) := cut13 S.H.length (tArr14 S S.H.length)
theorem nxt16_no {S : Sv14} {i : Int} (h : us14 usH S.H i = false) : nxt16 S i = -1 := by
  rw [nxt16, at14_no h]
  rfl
theorem ush16_lt {S : Sv14} {i : Int} (h : us14 usH S.H i = true) : 0 ≤ i ∧ i < (S.H.length : Int) := Classical.byContradiction (fun hn => by rw [us14_off def14H hn] at h; cases h)
theorem usl16_lt {S : Sv14} {i : Int} (h : us14 usL S.L i = true) : 0 ≤ i ∧ i < (S.L.length : Int) := Classical.byContradiction (fun hn => by rw [us14_off def14L hn] at h; cases h)
theorem ush16_of {S : Sv14} {k : Nat} (h : (gt14 S.H k).s = 4 ∨ (gt14 S.H k).s = 6) : us14 usH S.H (k : Int) = true := by
  rw [us14_nat, usH]
  rcases h with h | h <;> rw [h] <;> rfl
theorem tarr16_mem {S : Sv14} {a b : Int} : ∀ {n : Nat}, (a, b) ∈ tArr14 S n ↔ ∃ k : Nat, k < n ∧ a = (k : Int) ∧ ((gt14 S.H k).s = 4 ∧ b = (gt14 S.H k).f ∨ (gt14 S.H k).s = 6 ∧ b = (at14 usL S.L (gt14 S.H k).f).h)
  | 0 => by simp [tArr14]
  | n + 1 => by
    rw [tArr14, List.mem_append, tarr16_mem (n := n)]
    constructor
    · rintro (⟨k, h1, h2⟩ | h)
      · exact ⟨k, by omega, h2⟩
      · split at h
        · next h3 =>
          rw [List.mem_singleton] at h
          injection h with h4 h5
          exact ⟨n, by omega, h4, .inl ⟨h3, h5⟩⟩
        · split at h
          · next h3 =>
            rw [List.mem_singleton] at h
            injection h with h4 h5
            exact ⟨n, by omega, h4, .inr ⟨h3, h5⟩⟩
          · cases h
    · rintro ⟨k, h1, h2, h3⟩
      rcases (show k < n ∨ k = n by omega) with h6 | rfl
      · exact .inl ⟨k, h6, h2, h3⟩
      · right
        rcases h3 with ⟨h4, h5⟩ | ⟨h4, h5⟩
        · rw [if_pos h4, List.mem_singleton, h2, h5]
        · rw [if_neg (by rw [h4]; decide), if_pos h4, List.mem_singleton, h2, h5]
theorem nxt16_arr {S : Sv14} {k : Nat} {b : Int} (hk : k < S.H.length) : ((k : Int), b) ∈ tArr14 S S.H.length ↔ ((gt14 S.H k).s = 4 ∨ (gt14 S.H k).s = 6) ∧ nxt16 S (k : Int) = b := by
  rw [tarr16_mem]
  constructor
  · rintro ⟨j, _, h2, h3⟩
    obtain rfl : k = j := by omega
    have hu := ush16_of (h3.imp And.left And.left)
    refine ⟨h3.imp And.left And.left, ?_⟩
    rw [nxt16, at14_yes hu, Int.toNat_natCast]
    rcases h3 with ⟨h4, h5⟩ | ⟨h4, h5⟩
    · rw [if_pos h4, h5]
    · rw [if_neg (by rw [h4]; decide), if_pos h4, h5]
  · rintro ⟨h1, h2⟩
    have hu := ush16_of h1
    rw [nxt16, at14_yes hu, Int.toNat_natCast] at h2
    rcases h1 with h4 | h4
    · rw [if_pos h4] at h2
      exact ⟨k, hk, rfl, .inl ⟨h4, h2.symm⟩⟩
    · rw [if_neg (by rw [h4]; decide), if_pos h4] at h2
      exact ⟨k, hk, rfl, .inr ⟨h4, h2.symm⟩⟩
/-- In a state that may be one waits for a thread, or for nobody. -/
theorem nxt16_used {S : Sv14} (hf : Fine14 S) (i : Int) : nxt16 S i = -1 ∨ us14 usH S.H (nxt16 S i) = true ∧ ((at14 usH S.H i).s = 4 ∨ (at14 usH S.H i).s = 6) := by
  cases hu : us14 usH S.H i with
  | false => exact .inl (nxt16_no hu)
  | true =>
    have hin := ush16_lt hu
    obtain ⟨k, rfl⟩ : ∃ k : Nat, i = (k : Int) := ⟨i.toNat, by omega⟩
    have hk : k < S.H.length := by omega
    have hx : at14 usH S.H (k : Int) = gt14 S.H k := by rw [at14_yes hu, Int.toNat_natCast]
    have hth := (hf.2.2.2.2.2.1.1 k hk (by rwa [us14_nat] at hu)).1
    rw [nxt16, hx]
    rcases hth with h | h | h
    · rw [if_pos h.1]
      exact .inr ⟨h.2.1, .inl h.1⟩
    · rw [if_neg (by rw [h.1]; decide), if_pos h.1]
      right
      refine ⟨?_, .inr h.1⟩
      have hlu := h.2
      have hli := usl16_lt hlu
      obtain ⟨j, hj⟩ : ∃ j : Nat, (gt14 S.H k).f = (j : Int) := ⟨(gt14 S.H k).f.toNat, by omega⟩
      rw [hj] at hlu hli ⊢
      rw [at14_yes hlu, Int.toNat_natCast]
      have hjl : j < S.L.length := by omega
      have hlk := hf.2.2.2.2.2.2.1 j hjl (by rwa [us14_nat] at hlu)
      rcases hlk with h3 | h3
      · exact absurd ⟨h.1, hj⟩ (h3.2 k hk)
      · exact h3.2.1
    · left
      rw [if_neg (by rcases h.1 with e | e | e | e <;> rw [e] <;> decide), if_neg (by rcases h.1 with e | e | e | e <;> rw [e] <;> decide)]
theorem ta16_mem {S : Sv14} (hf : Fine14 S) {a b : Nat} : (a, b) ∈ Ta16 S ↔ a < S.H.length ∧ nxt16 S (a : Int) = (b : Int) := by
  unfold Ta16
  rw [cut13_mem]
  constructor
  · rintro ⟨h1, h2, h3⟩
    exact ⟨h2, ((nxt16_arr h2).1 h1).2⟩
  · rintro ⟨h1, h2⟩
    rcases nxt16_used hf (a : Int) with h3 | ⟨h3, h4⟩
    · rw [h2] at h3
      omega
    · rw [h2] at h3
      have h5 := ush16_lt h3
      refine ⟨(nxt16_arr h1).2 ⟨?_, h2⟩, h1, by omega⟩
      have hu : us14 usH S.H (a : Int) = true := by
        cases hu : us14 usH S.H (a : Int) with
        | true => rfl
        | false => rw [nxt16_no hu] at h2; omega
      rwa [at14_yes hu, Int.toNat_natCast] at h4
/-- A thread's chain. -/
inductive Chn16 (S : Sv14) : Nat → List Nat → Prop
  | one {i : Nat} : nxt16 S (i : Int) = -1 → Chn16 S i [i]
  | step {i j : Nat} {l : List Nat} : nxt16 S (i : Int) = (j : Int) → Chn16 S j l → Chn16 S i (i :: l)
theorem Chn16.same {S : Sv14} {i : Nat} {l m : List Nat} (h : Chn16 S i l) (k : Chn16 S i m) : l = m := by
  induction h generalizing m with
  | one h1 =>
    cases k with
    | one _ => rfl
    | step h2 _ => omega
  | @step i j l h1 _ ih =>
    cases k with
    | one h2 => omega
    | @step _ j2 l2 h2 h3 =>
      obtain rfl : j = j2 := by omega
      rw [ih h3]
theorem Chn16.head {S : Sv14} {i : Nat} {l : List Nat} (h : Chn16 S i l) : ∃ r, l = i :: r := by
  cases h with
  | one _ => exact ⟨_, rfl⟩
  | step _ _ => exact ⟨_, rfl⟩
theorem Chn16.ne {S : Sv14} {i : Nat} {l : List Nat} (h : Chn16 S i l) : l ≠ [] := by
  obtain ⟨r, rfl⟩ := h.head
  simp
/-- What stands in a chain has the rest of it. -/
theorem Chn16.rest {S : Sv14} {i x : Nat} {l : List Nat} (h : Chn16 S i l) (hx : x ∈ l) : ∃ a r, l = a ++ r ∧ Chn16 S x r := by
  induction h with
  | @one i h1 =>
    obtain rfl : x = i := by simpa using hx
    exact ⟨[], [x], rfl, .one h1⟩
  | @step i j l h1 h2 ih =>
    rw [List.mem_cons] at hx
    rcases hx with rfl | hx
    · exact ⟨[], x :: l, rfl, .step h1 h2⟩
    · obtain ⟨a, r, h3, h4⟩ := ih hx
      exact ⟨i :: a, r, by rw [h3]; rfl, h4⟩
/-- Its end. -/
def lst16 (l : List Nat) : Nat := nth l (l.length - 1)
theorem lst16_app {a r : List Nat} (h : r ≠ []) : lst16 (a ++ r) = lst16 r := by
  have hp := List.length_pos_iff.2 h
  unfold lst16 nth
  rw [List.length_append, List.getD_eq_getElem?_getD, List.getD_eq_getElem?_getD, List.getElem?_append_right (by omega)]
  congr 2
  omega
theorem Chn16.end_ {S : Sv14} {i : Nat} {l : List Nat} (h : Chn16 S i l) : nxt16 S ((lst16 l : Nat) : Int) = -1 ∧ lst16 l ∈ l := by
  induction h with
  | @one i h1 => exact ⟨h1, by simp [lst16, nth]⟩
  | @step i j l h1 h2 ih =>
    have e : lst16 (i :: l) = lst16 l := lst16_app (a := [i]) h2.ne
    rw [e]
    exact ⟨ih.1, List.mem_cons_of_mem _ ih.2⟩
/-- All in a chain have its end. -/
theorem Chn16.ends {S : Sv14} {i x : Nat} {l r : List Nat} (h : Chn16 S i l) (hx : x ∈ l) (hr : Chn16 S x r) : lst16 r = lst16 l := by
  obtain ⟨a, r2, h1, h2⟩ := h.rest hx
  rw [h2.same hr] at h1
  rw [h1, lst16_app hr.ne]
theorem Chn16.used {S : Sv14} (hf : Fine14 S) {i : Nat} {l : List Nat} (h : Chn16 S i l) (hi : us14 usH S.H (i : Int) = true) : ∀ x, x ∈ l → us14 usH S.H (x : Int) = true := by
  induction h with
  | @one i _ =>
    intro x hx
    obtain rfl : x = i := by simpa using hx
    exact hi
  | @step i j l h1 _ ih =>
    intro x hx
    rw [List.mem_cons] at hx
    rcases hx with rfl | hx
    · exact hi
    · refine ih ?_ x hx
      rcases nxt16_used hf (i : Int) with h2 | h2
      · omega
      · rw [h1] at h2
        exact h2.1
/-- One comes from i to whoever stands behind it in its chain. -/
theorem Chn16.way {S : Sv14} (hf : Fine14 S) {i : Nat} {l : List Nat} (h : Chn16 S i l) (hi : i < S.H.length) : ∀ x, x ∈ l ↔ x = i ∨ Way (Ta16 S) i x := by
  have back : ∀ {a b : Nat}, Way (Ta16 S) a b → ∃ j : Nat, nxt16 S (a : Int) = (j : Int) ∧ (j = b ∨ Way (Ta16 S) j b) := by
    intro a b hw
    induction hw with
    | one h1 => exact ⟨_, ((ta16_mem hf).1 h1).2, .inl rfl⟩
    | step _ h1 ih =>
      obtain ⟨j, h2, h3⟩ := ih
      refine ⟨j, h2, .inr ?_⟩
      rcases h3 with rfl | h3
      · exact .one h1
      · exact h3.step h1
  induction h with
  | @one i h1 =>
    intro x
    rw [List.mem_singleton]
    constructor
    · exact .inl
    · rintro (h | h)
      · exact h
      · obtain ⟨j, h2, _⟩ := back h
        omega
  | @step i j l h1 h2 ih =>
    intro x
    have hj : j < S.H.length := by
      rcases nxt16_used hf (i : Int) with h3 | ⟨h3, _⟩
      · omega
      · rw [h1] at h3
        have := ush16_lt h3
        omega
    have ha : (i, j) ∈ Ta16 S := (ta16_mem hf).2 ⟨hi, h1⟩
    rw [List.mem_cons, ih hj x]
    constructor
    · rintro (h | rfl | h)
      · exact .inl h
      · exact .inr (.one ha)
      · exact .inr ((Way.one ha).trans h)
    · rintro (h | h)
      · exact .inl h
      · right
        obtain ⟨j2, h3, h4⟩ := back h
        obtain rfl : j = j2 := by omega
        rcases h4 with h4 | h4
        · exact .inl h4.symm
        · exact .inr h4
theorem in16_ta (S : Sv14) : In13 (Ta16 S) S.H.length := fun _ hp => cut13_lt hp
/-- In a state that may be each thread has a chain. -/
theorem chn16_ex {S : Sv14} (hf : Fine14 S) {i : Nat} (hi : i < S.H.length) : ∃ l, Chn16 S i l := by
  obtain ⟨os, hd, hl⟩ : Free14R S.H.length (tArr14 S S.H.length) := hf.2.2.2.2.2.2.2.2.2
  obtain ⟨D, hD, hn⟩ := dep13_ex (in16_ta S) hd.1 hl
  suffices H : ∀ (m i : Nat), i < S.H.length → S.H.length - D i ≤ m → ∃ l, Chn16 S i l from H _ i hi (Nat.le_refl _)
  intro m
  induction m with
  | zero =>
    intro i hi h0
    rcases nxt16_used hf (i : Int) with h3 | ⟨h3, _⟩
    · exact ⟨[i], .one h3⟩
    · have h5 := ush16_lt h3
      obtain ⟨j, hj⟩ : ∃ j : Nat, nxt16 S (i : Int) = (j : Int) := ⟨(nxt16 S (i : Int)).toNat, by omega⟩
      have h6 := hD.up i j ((ta16_mem hf).2 ⟨hi, hj⟩)
      have h7 := hn j
      omega
  | succ m ih =>
    intro i hi h0
    rcases nxt16_used hf (i : Int) with h3 | ⟨h3, _⟩
    · exact ⟨[i], .one h3⟩
    · have h5 := ush16_lt h3
      obtain ⟨j, hj⟩ : ∃ j : Nat, nxt16 S (i : Int) = (j : Int) := ⟨(nxt16 S (i : Int)).toNat, by omega⟩
      have h6 := hD.up i j ((ta16_mem hf).2 ⟨hi, hj⟩)
      have h7 := hn j
      obtain ⟨l, hl⟩ := ih j (by omega) (by omega)
      exact ⟨i :: l, .step hj hl⟩
/-- It is no longer than there are threads. -/
theorem Chn16.len {S : Sv14} (hf : Fine14 S) {i : Nat} {l : List Nat} (h : Chn16 S i l) (hi : i < S.H.length) : l.length ≤ S.H.length := by
  have hr : ¬ Rng13 (Ta16 S) := free15_ring.1 hf.2.2.2.2.2.2.2.2.2
  have hnd : ∀ {i : Nat} {l : List Nat}, Chn16 S i l → i < S.H.length → l.Nodup ∧ ∀ x, x ∈ l → x < S.H.length := by
    intro i l h
    induction h with
    | one _ => exact fun hi => ⟨by simp, fun x hx => by obtain rfl := List.mem_singleton.1 hx; exact hi⟩
    | @step i j l h1 h2 ih =>
      intro hi
      have ha : (i, j) ∈ Ta16 S := (ta16_mem hf).2 ⟨hi, h1⟩
      have hj := (in16_ta S _ ha).2
      obtain ⟨h3, h4⟩ := ih hj
      refine ⟨List.nodup_cons.2 ⟨fun hm => ?_, h3⟩, fun x hx => ?_⟩
      · rcases (h2.way hf hj i).1 hm with h5 | h5
        · subst h5
          exact hr ⟨i, .one ha⟩
        · exact hr ⟨i, (Way.one ha).trans h5⟩
      · rw [List.mem_cons] at hx
        rcases hx with rfl | hx
        · exact hi
        · exact h4 x hx
  obtain ⟨h1, h2⟩ := hnd h hi
  exact nodup13_len _ l h1 h2
end Go.Proofs.Ytllcmjdfgbiijaa
namespace Go.Proofs.Ytllcmjdfgbiijaa
open Go.RowKit
set_option maxRecDepth 100000
set_option maxHeartbeats 2000000 in
theorem ordc15 (c : Int) (gx : Nat) (S : Sv14) (A0 A1 A2 A3 A4 : Option Addr) (n0 n1 n2 n3 n4 c0 c1 c2 c3 c4 : Nat) (sq : Int) (w : World) (b : Bool) (hx : Blk w gx 28 #[.slice A0 n0 c0, .slice A1 n1 c1, .slice A2 n2 c2, .slice A3 n3 c3, .slice A4 n4 c4, .int .i64 sq]) (hs : SA14 w S A0 A1 A2 A3 A4 n0 n1 n2 n3 n4 c0 c1 c2 c3 c4 sq) (hb : us14 usC S.C c = b) :
    Calls Try.prog 47 #[.int .i64 c, .pointer (some ⟨gx, 0, none⟩)] w fun e w' => e = .returned (.bool (!b)) ∧ Below w.heap.size w w' := by
  have HC := Lib.hid (coin14 (.agg #[.slice A0 n0 c0, .slice A1 n1 c1, .slice A2 n2 c2, .slice A3 n3 c3, .slice A4 n4 c4, .int .i64 sq]) S c b w ⟨A0, A1, A2, A3, A4, n0, n1, n2, n3, n4, c0, c1, c2, c3, c4, sq, rfl, hs⟩ hb)
  have x0 := hx.cell 0
  have x1 := hx.cell 1
  have x2 := hx.cell 2
  have x3 := hx.cell 3
  have x4 := hx.cell 4
  have x5 := hx.cell 5
  clear hs hb hx
  go_enter Try.func47, Try.ntmps47
  go_wp2_with fail
  refine HC.out.mono ?_
  rintro e w1 ⟨rfl, hb1⟩
  clear HC
  cases b with
  | true =>
    go_wp2_with fail
    go_ret
    exact ⟨rfl, hb1⟩
  | false =>
    go_wp2_with fail
    go_ret
    exact ⟨rfl, hb1⟩
/-- Where the first one is. -/
def Fst15 (p : Nat → Bool) (xs : List Nat) (n : Nat) (r : Int) : Prop := (∃ k : Nat, k < n ∧ r = (k : Int) ∧ p (nth xs k) = true ∧ ∀ j, j < k → p (nth xs j) = false) ∨ (r = -1 ∧ ∀ j, j < n → p (nth xs j) = false)
set_option maxHeartbeats 4000000 in
theorem idx15a (A : Option Addr) (xs : List Nat) (n c gx B : Nat) (w : World) (hl : xs.length = n) (hr : Rd w B A xs) (hn : n ≤ 1000000) (hB : B ≤ w.heap.size) (p : Nat → Bool)
    (hcl : ∀ W, Below w.heap.size w W → ∀ x, x ∈ xs → Calls Try.prog 47 #[.int .i64 ((x : Nat) : Int), .pointer (some ⟨gx, 0, none⟩)] W fun e w' => e = .returned (.bool (p x)) ∧ Below W.heap.size W w') :
    Calls Try.prog 57 #[.slice A n c, .func (.func 47) #[] #[.pointer (some ⟨gx, 0, none⟩)]] w fun e w' => ∃ r : Int, e = .returned (.int .i64 r) ∧ Fst15 p xs n r ∧ Below w.heap.size w w' := by
  have HL := Lib.hid hl
  have HR := Lib.hid hr
  have HC := Lib.hid hcl
  clear hl hr hcl
  go_enter Try.func57, Try.ntmps57
  go_wp2_with fail
  go_loopw [8] (fun i wr => ∃ k : Nat, i = .int .i64 (k : Int) ∧ k ≤ n ∧ Hid (∀ j, j < k → p (nth xs j) = false) ∧ Hid (Below w.heap.size w wr)) (fun i _ => n - (intOf i).toNat)
  case atStart => exact ⟨0, rfl, by omega, Lib.hid (fun j h => by omega), Lib.hid (Below.refl _ _)⟩
  case round =>
    obtain ⟨k, rfl, hk, HN, HG⟩ := hrel
    by_cases hkn : k < n
    · obtain ⟨g, o, hA, hab, q0⟩ := (HR.out.below HG.out hB).at_ (show k < xs.length by have := HL.out; omega)
      subst hA
      obtain ⟨x, hx⟩ : ∃ x, nth xs k = x := ⟨_, rfl⟩
      rw [hx] at q0
      obtain ⟨bp, hbp⟩ : ∃ y, p x = y := ⟨_, rfl⟩
      have HX : Hid (p (nth xs k) = bp) := Lib.hid (by rw [hx]; exact hbp)
      have i0 : (0 : Int) ≤ (k : Int) := by omega
      have i1 : (k : Int) < (n : Int) := by omega
      have hc := HC.out _ HG.out x (by rw [← hx, nth_in (by have := HL.out; omega)]; exact List.getElem_mem _)
      rw [hbp] at hc
      have HCK := Lib.hid hc
      clear hx hbp hc hab
      cases bp with
      | true =>
        go_wp2_with fail
        refine HCK.out.mono ?_
        rintro e w1 ⟨rfl, hb1⟩
        have HG1 := Lib.hid (HG.out.trans (hb1.mono HG.out.size))
        clear HCK hb1
        go_wp2_with fail
        go_ret
        exact ⟨(k : Int), rfl, .inl ⟨k, hkn, rfl, HX.out, HN.out⟩, HG1.out⟩
      | false =>
        go_wp2_with fail
        refine HCK.out.mono ?_
        rintro e w1 ⟨rfl, hb1⟩
        have HG1 := Lib.hid (HG.out.trans (hb1.mono HG.out.size))
        clear HCK hb1
        go_wp2_with fail
        go_roundw
        case rel => exact ⟨k + 1, by go_num, by omega, Lib.hid (fun j hj => by
          rcases (show j < k ∨ j = k by omega) with h5 | h5
          · exact HN.out j h5
          · rw [h5]; exact HX.out), HG1⟩
        case measure => simp [intOf]; omega
    · obtain rfl : k = n := by omega
      have i1 : ¬ (k : Int) < (k : Int) := by omega
      go_wp2_with fail
      go_ret
      exact ⟨-1, rfl, .inr ⟨rfl, HN.out⟩, HG.out⟩
/-- clear of what lies behind the first k. -/
theorem clear15 {w : World} {g n k : Nat} {h : Nat → Nat} (q : Ib13 w g n h) (hk : k ≤ n) (B : Option Addr) (c : Nat) (hB : k < n → B = some ⟨g, k, none⟩) :
    ∃ w', (∀ ty, (Builtin.clear_ #[26] ty #[.slice B (n - k) c]).run Try.prog w = .ok (.tuple #[]) w') ∧ Ib13 w' g k h ∧ w.grownBy w' (some g) := by
  rcases Nat.eq_zero_or_pos (n - k) with h0 | h0
  · rw [h0]
    obtain rfl : k = n := by omega
    refine ⟨w, fun ty => ?_, q, World.grownBy.refl _ _⟩
    cases B <;> simp [Builtin.clear_, run_underlying Try.underlying26]
  · obtain rfl := hB (by omega)
    obtain ⟨cs, h1, h2, h3⟩ := q
    obtain ⟨zs, hz0⟩ : ∃ zs, zs = ints (List.replicate (n - k) 0) := ⟨_, rfl⟩
    have hzl : zs.length = n - k := by rw [hz0]; simp [ints]
    have hst := run_storeCells_at (P := Try.prog) g k 3 zs 0 cs w h1 (by omega) (by rw [hz0]; exact ints_one _)
    have hz : ∀ W, (zeroValue 3).run Try.prog W = .ok (.int .i64 0) W := fun W => by
      obtain ⟨i, hi, hz, _⟩ := info_parts info_int11
      simp [zeroValue, typeInfo, hi, hz]
    have hzc : (Builtin.zeroCells (Value.int .i64 0).cells (n - k)).toList = zs := by
      rw [hz0]
      simp [Builtin.zeroCells, Value.cells, ints]
      apply List.ext_getElem
      · simp
      · intro i h1 h2
        simp [Nat.mod_one]
    refine ⟨w.setRow g (cs.toList.take k ++ zs ++ cs.toList.drop (k + zs.length)).toArray, fun ty => ?_, ⟨_, setRow_heap _ _ _ _ _ _ h1, ?_, fun j hj => ?_⟩, ?_⟩
    · obtain ⟨d, hd⟩ : ∃ d, n - k = d + 1 := ⟨n - k - 1, by omega⟩
      rw [Nat.add_zero] at hst
      rw [← hzc] at hst ⊢
      rw [hd] at hst ⊢
      simp [Builtin.clear_, run_underlying Try.underlying26, hz, hst]
    · simp
      omega
    · rw [← h3 j (by omega)]
      simp only [List.getElem?_toArray, List.append_assoc]
      rw [List.getElem?_append_left (by simp; omega), List.getElem?_take_of_lt hj, Array.getElem?_toList]
    · exact ⟨rfl, rfl, rfl, by simp [World.setRow], fun j _ hj => setRow_other w g j _ (fun e => hj (by rw [e]))⟩
/-- s[k:] -/
theorem cutb15 (g n c k : Nat) (hk : k ≤ n) (hn : n ≤ c) : ∃ B, (∀ W, (Instr.slice 26 (.slice (some ⟨g, 0, none⟩) n c) (some (.int .i64 (k : Int))) none none).run Try.prog W = .ok (.slice B (n - k) (c - k)) W) ∧ (k < n → B = some ⟨g, k, none⟩) := by
  refine ⟨if c = k then some ⟨g, 0, none⟩ else (some (⟨g, 0, none⟩ : Addr)).map (·.add k), fun W => ?_, fun h => ?_⟩
  · simp [go_sem, show (k : Int) ≤ (n : Int) by omega, run_slice_l]
  · rw [if_neg (by omega)]
    simp [Addr.add]
    omega
end Go.Proofs.Ytllcmjdfgbiijaa
namespace Go.Proofs.Ytllcmjdfgbiijaa
open Go.RowKit
set_option maxRecDepth 100000
theorem filt15_next {xs : List Nat} {p : Nat → Bool} {j : Nat} (hj : j < xs.length) : (xs.take (j + 1)).filter p = (xs.take j).filter p ++ if p (nth xs j) then [nth xs j] else [] := by
  rw [List.take_add_one, List.getElem?_eq_getElem hj, nth_in hj, List.filter_append]
  congr 1
  cases h : p xs[j] <;> simp [h]
theorem filt15_head {xs : List Nat} {p : Nat → Bool} {j : Nat} (hj : j ≤ xs.length) (h : ∀ t, t < j → p (nth xs t) = true) : (xs.take j).filter p = xs.take j := by
  rw [List.filter_eq_self]
  intro x hx
  obtain ⟨t, ht, rfl⟩ := List.getElem_of_mem hx
  rw [List.length_take] at ht
  rw [List.getElem_take, ← nth_in]
  exact h t (by omega)
theorem nth15_take {xs : List Nat} {j t : Nat} (h : t < j) : nth (xs.take j) t = nth xs t := by simp [nth, List.getElem?_take, h]
theorem nth15_low {xs ys : List Nat} {t : Nat} (h : t < xs.length) : nth (xs ++ ys) t = nth xs t := by simp [nth, List.getElem?_append_left h]
theorem nth15_at {xs : List Nat} {x t : Nat} (h : xs.length = t) : nth (xs ++ [x]) t = x := by subst h; simp [nth]
/-- What a slice of ints that is answered reads as. -/
def RetR15 (w : World) (xs : List Nat) (e : Ending) (w' : World) : Prop := ∃ A c, e = .returned (.slice A xs.length c) ∧ Rd w' w'.heap.size A xs ∧ Below w.heap.size w w'
theorem rd15_own {w : World} {base : Nat} {A : Option Addr} {c n : Nat} {xs : List Nat} (h : w.ownsRow base 3 1 (.slice A n c) n (ints xs)) (hl : xs.length = n) : Rd w w.heap.size A xs := by
  rcases h.2 with ⟨_, h1⟩ | ⟨g, cap, cur, hv, _, _⟩
  · intro hx
    exact absurd (List.eq_nil_of_length_eq_zero (by omega)) hx
  · injection hv with hA hn hc
    subst hA hl
    exact (Ib13.of_own h rfl).rd (fun _ _ => rfl)
/-- Between two rounds of DeleteFunc. -/
structure Df15 (w : World) (B g n : Nat) (xs : List Nat) (p : Nat → Bool) (k j : Nat) (W : World) : Prop where
  b : Below B w W
  l : ((xs.take j).filter (fun x => !p x)).length = k
  r : ∃ h : Nat → Nat, Ib13 W g n h ∧ (∀ t, t < k → h t = nth ((xs.take j).filter (fun x => !p x)) t) ∧ ∀ t, j ≤ t → t < n → h t = nth xs t
/-- The used ones of an order. -/
def ord15 (S : Sv14) (os : List Nat) : List Nat := os.filter (fun x => us14 usC S.C (x : Int))
end Go.Proofs.Ytllcmjdfgbiijaa
namespace Go.Proofs.Ytllcmjdfgbiijaa
open Go.RowKit
set_option maxRecDepth 100000
/-- Between two rounds: a boxed state, and a row of ints from block L on. -/
structure Ti15 (w : World) (L : Nat) (S : Sv14) (A0 A1 A2 A3 A4 : Option Addr) (n0 n1 n2 n3 n4 c0 c1 c2 c3 c4 : Nat) (sq : Int) (A : Option Addr) (m c : Nat) (xs : List Nat) (W : World) : Prop where
  b : Bx14 w S A0 A1 A2 A3 A4 n0 n1 n2 n3 n4 c0 c1 c2 c3 c4 sq W
  o : W.ownsRow L 3 1 (.slice A m c) m (ints xs)
  l : xs.length = m
  h : w.heap.size < L
  t : L ≤ W.heap.size
  s : SA14 w S A0 A1 A2 A3 A4 n0 n1 n2 n3 n4 c0 c1 c2 c3 c4 sq
theorem Ti15.step {w : World} {L : Nat} {S : Sv14} {A0 A1 A2 A3 A4 : Option Addr} {n0 n1 n2 n3 n4 c0 c1 c2 c3 c4 : Nat} {sq : Int} {A : Option Addr} {m c : Nat} {xs : List Nat} {W W' : World} (h : Ti15 w L S A0 A1 A2 A3 A4 n0 n1 n2 n3 n4 c0 c1 c2 c3 c4 sq A m c xs W) (hb : Below W.heap.size W W') : Ti15 w L S A0 A1 A2 A3 A4 n0 n1 n2 n3 n4 c0 c1 c2 c3 c4 sq A m c xs W' :=
  ⟨h.b.step hb, own7_keep h.o hb, h.l, h.h, Nat.le_trans h.t hb.size, h.s⟩
theorem Ti15.congr {w : World} {L : Nat} {S : Sv14} {A0 A1 A2 A3 A4 : Option Addr} {n0 n1 n2 n3 n4 c0 c1 c2 c3 c4 : Nat} {sq : Int} {A : Option Addr} {m c : Nat} {xs ys : List Nat} {W : World} (h : Ti15 w L S A0 A1 A2 A3 A4 n0 n1 n2 n3 n4 c0 c1 c2 c3 c4 sq A m c xs W) (e : xs = ys) : Ti15 w L S A0 A1 A2 A3 A4 n0 n1 n2 n3 n4 c0 c1 c2 c3 c4 sq A m c ys W := e ▸ h
theorem Ti15.start {w : World} {L : Nat} {S : Sv14} {A0 A1 A2 A3 A4 : Option Addr} {n0 n1 n2 n3 n4 c0 c1 c2 c3 c4 : Nat} {sq : Int} {W : World} (hs : SA14 w S A0 A1 A2 A3 A4 n0 n1 n2 n3 n4 c0 c1 c2 c3 c4 sq) (h : Bx14 w S A0 A1 A2 A3 A4 n0 n1 n2 n3 n4 c0 c1 c2 c3 c4 sq W) (hL : w.heap.size < L) (hW : L ≤ W.heap.size) : Ti15 w L S A0 A1 A2 A3 A4 n0 n1 n2 n3 n4 c0 c1 c2 c3 c4 sq none 0 0 [] W := ⟨h, World.ownsRow_nil _ _ _ _, rfl, hL, hW, hs⟩
theorem Ti15.rd {w : World} {L : Nat} {S : Sv14} {A0 A1 A2 A3 A4 : Option Addr} {n0 n1 n2 n3 n4 c0 c1 c2 c3 c4 : Nat} {sq : Int} {A : Option Addr} {m c : Nat} {xs : List Nat} {W : World} (h : Ti15 w L S A0 A1 A2 A3 A4 n0 n1 n2 n3 n4 c0 c1 c2 c3 c4 sq A m c xs W) : Rd W W.heap.size A xs := rd15_own h.o h.l
/-- A number is appended. -/
theorem Ti15.push {w : World} {L : Nat} {S : Sv14} {A0 A1 A2 A3 A4 : Option Addr} {n0 n1 n2 n3 n4 c0 c1 c2 c3 c4 : Nat} {sq : Int} {A : Option Addr} {m c : Nat} {xs : List Nat} {W : World} (h : Ti15 w L S A0 A1 A2 A3 A4 n0 n1 n2 n3 n4 c0 c1 c2 c3 c4 sq A m c xs W) (x : Nat) (hm : m ≤ 5000) :
    ∃ Az cz W2, (Builtin.append_ #[26, 26] 26 #[.slice A m c, .slice (some ⟨W.heap.size, 0, none⟩) 1 1]).run Try.prog (W.alloc (.cells #[.int .i64 (x : Int)] 3)) = .ok (.slice Az (m + 1) cz) W2 ∧ Ti15 w L S A0 A1 A2 A3 A4 n0 n1 n2 n3 n4 c0 c1 c2 c3 c4 sq Az (m + 1) cz (xs ++ [x]) W2 ∧ Below L W W2 := by
  have hbz := b1' W (.cells #[.int .i64 (x : Int)] 3)
  have hkz := Blk.new W 3 #[.int .i64 (x : Int)]
  have h1 := h.step hbz
  have hsy : (W.alloc (.cells #[.int .i64 (x : Int)] 3)).heap.size = W.heap.size + 1 := by simp
  obtain ⟨Y, hY⟩ : ∃ Y, W.alloc (.cells #[.int .i64 (x : Int)] 3) = Y := ⟨_, rfl⟩
  rw [hY] at hbz hkz h1 hsy ⊢
  have hrv : Rv Y Y.heap.size (some ⟨W.heap.size, 0, none⟩) [.int .i64 (x : Int)] := fun _ => ⟨W.heap.size, 0, rfl, by omega, fun j v hj => by rw [Nat.zero_add, hkz.cell]; simpa using hj⟩
  obtain ⟨Az, cz, W2, hrun, hown, hg⟩ := run_append_14 (P := Try.prog) Y L 26 26 3 _ 1 8 Try.underlying26 info_int11 rfl (by omega) (by omega) _ m _ h1.o Y.heap.size (some ⟨W.heap.size, 0, none⟩) [.int .i64 (x : Int)] 1 1 rfl hrv (by simp [Value.oneCell']) (by omega) h1.t
  have ht := h.t
  have hlt := h.h
  have hY2 : Below L Y W2 := (Below.refl L Y).grown hg h1.t (fun r hr => (h1.o.lt r hr).1)
  have hW2 : Below L W W2 := (hbz.mono ht).trans hY2
  have hB : Below w.heap.size w W2 := h.b.b.trans (hW2.mono (by omega))
  refine ⟨Az, cz, W2, hrun, ⟨⟨hB, h.b.x.below hW2 hlt, h.s.step hB⟩, ?_, by simp [h.l], hlt, by have := hW2.size; omega, h.s⟩, hW2⟩
  rw [ints_append]
  exact hown
/-- Which tickets. -/
def tks15 (S : Sv14) (p : Tk14 → Bool) (n : Nat) : List Nat := all11 (fun j => (gt14 S.T j).u && p (gt14 S.T j)) n
theorem tks15_len (S : Sv14) (p : Tk14 → Bool) (n : Nat) : (tks15 S p n).length ≤ n := all11_len _ _
theorem tks15_mem {S : Sv14} {p : Tk14 → Bool} {n j : Nat} : j ∈ tks15 S p n ↔ j < n ∧ (gt14 S.T j).u = true ∧ p (gt14 S.T j) = true := by
  unfold tks15 all11
  rw [List.mem_filter, List.mem_range, Bool.and_eq_true]
def isw15 (c : Int) (t : Tk14) : Bool := decide (t.c = c)
set_option maxHeartbeats 2000000 in
theorem isc15 (xu : Bool) (xc xa xk xt : Int) (xo : Bool) (gc : Nat) (c : Int) (w : World) (hc : w.cell? ⟨gc, 0, none⟩ = some (.int .i64 c)) :
    Calls Try.prog 61 #[.agg #[.bool xu, .int .i64 xc, .int .i64 xa, .int .i64 xk, .int .i64 xt, .bool xo], .pointer (some ⟨gc, 0, none⟩)] w fun e w' => e = .returned (.bool (isw15 c ⟨xu, xc, xa, xk, xt, xo⟩)) ∧ Below w.heap.size w w' := by
  have hk := Blk.new w 35 #[.bool xu, .int .i64 xc, .int .i64 xa, .int .i64 xk, .int .i64 xt, .bool xo]
  have hb1 := b1' w (.cells #[.bool xu, .int .i64 xc, .int .i64 xa, .int .i64 xk, .int .i64 xt, .bool xo] 35)
  have l0 := (hb1.cell (p := ⟨gc, 0, none⟩) (World.block_lt_of_cell? w _ hc)).trans hc
  have c1 := hk.cell 1
  have HE : Hid (isw15 c ⟨xu, xc, xa, xk, xt, xo⟩ = (xc == c)) := Lib.hid (by unfold isw15; rw [Bool.eq_iff_iff]; simp)
  clear hk hc
  go_enter Try.func61, Try.ntmps61
  go_wp2_with fail
  go_ret
  exact ⟨by rw [HE.out]; rfl, hb1⟩
def isd15 (S : Sv14) (c : Int) : List Nat := if us14 usC S.C c = true then tks15 S (isw15 c) S.T.length else []
end Go.Proofs.Ytllcmjdfgbiijaa
namespace Go.Proofs.Ytllcmjdfgbiijaa
open Go.RowKit
set_option maxRecDepth 100000
theorem told15_pre {A : List (Nat × Nat)} {n : Nat} {os : List Nat} (h : Told13 A n os) (us : Nat → Bool) : ∀ k, k < (os.filter us).length → ∀ f, (f, nth (os.filter us) k) ∈ A → us f = true → f ∈ (os.filter us).take k := by
  induction h with
  | nil => intro k hk; simp at hk
  | @next os i h1 h2 h3 ih =>
    intro k hk f hf hu
    have e0 : (os ++ [i]).filter us = os.filter us ++ if us i then [i] else [] := by
      rw [List.filter_append]
      congr 1
      cases hi : us i <;> simp [hi]
    rw [e0] at hk
    rw [e0] at hf
    rw [e0]
    cases hi : us i with
    | false =>
      rw [hi] at hk hf
      simp only [Bool.false_eq_true, if_false, List.append_nil] at hk hf ⊢
      exact ih k hk f hf hu
    | true =>
      rw [hi] at hk hf
      simp only [if_true] at hk hf ⊢
      rcases Nat.lt_or_ge k (os.filter us).length with h | h
      · rw [nth15_low h] at hf
        rw [List.take_append_of_le_length (by omega)]
        exact ih k h f hf hu
      · obtain rfl : k = (os.filter us).length := by
          rw [List.length_append, List.length_singleton] at hk
          omega
        rw [nth15_at rfl] at hf
        rw [List.take_left]
        exact List.mem_filter.2 ⟨h2.2.2 f hf, hu⟩
theorem carr15_mem {S : Sv14} {a b : Int} : ∀ {n : Nat}, (a, b) ∈ cArr14 S n ↔ ∃ j, j < n ∧ (gt14 S.T j).u = true ∧ (gt14 S.T j).k = 2 ∧ (gt14 S.T j).c = a ∧ (gt14 S.T j).t = b
  | 0 => by simp [cArr14]
  | n + 1 => by
    rw [cArr14, List.mem_append, carr15_mem (n := n)]
    constructor
    · rintro (⟨j, h1, h2⟩ | h)
      · exact ⟨j, by omega, h2⟩
      · split at h
        · next h3 =>
          rw [List.mem_singleton] at h
          injection h with h4 h5
          exact ⟨n, by omega, h3.1, h3.2, h4.symm, h5.symm⟩
        · cases h
    · rintro ⟨j, h1, h2, h3, h4, h5⟩
      rcases (show j < n ∨ j = n by omega) with h6 | rfl
      · exact .inl ⟨j, h6, h2, h3, h4, h5⟩
      · right
        rw [if_pos ⟨h2, h3⟩, List.mem_singleton, h4, h5]
theorem ca15_mem {S : Sv14} {f x : Nat} : (f, x) ∈ Ca15 S ↔ (∃ j, Bck15 S x j ∧ (gt14 S.T j).c = (f : Int)) ∧ f < S.C.length ∧ x < S.C.length := by
  unfold Ca15
  rw [cut13_mem, carr15_mem]
  constructor
  · rintro ⟨⟨j, h1, h2, h3, h4, h5⟩, h6⟩
    exact ⟨⟨j, ⟨h1, h2, h3, h5⟩, h4⟩, h6⟩
  · rintro ⟨⟨j, ⟨h1, h2, h3, h5⟩, h4⟩, h6⟩
    exact ⟨⟨j, h1, h2, h3, h4, h5⟩, h6⟩
theorem us15_lt {S : Sv14} {i : Int} (h : us14 usC S.C i = true) : 0 ≤ i ∧ i < (S.C.length : Int) := Classical.byContradiction (fun hn => by rw [us14_off def14C hn] at h; cases h)
theorem ord15_used {S : Sv14} {os : List Nat} {k : Nat} (hk : k < (ord15 S os).length) : us14 usC S.C ((nth (ord15 S os) k : Nat) : Int) = true := by
  have h : nth (ord15 S os) k ∈ ord15 S os := by rw [nth_in hk]; exact List.getElem_mem _
  exact (List.mem_filter.1 h).2
theorem take15_next {ns : List Nat} {k : Nat} (hk : k < ns.length) : ns.take (k + 1) = ns.take k ++ [nth ns k] := by
  rw [List.take_add_one, List.getElem?_eq_getElem hk, nth_in hk]
  rfl
end Go.Proofs.Ytllcmjdfgbiijaa
