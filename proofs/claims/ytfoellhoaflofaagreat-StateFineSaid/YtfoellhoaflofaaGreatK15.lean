/-
  SaidStateFine, part 15 of 24: what the theorem stateFine_holds reaches.
-/
import Derived.Test.YtfoellhoaflofaaGreatK14
import Derived.RangeFuncCalls
import Derived.Sort.OwnSortedInts
namespace Go.Proofs.YtfoellhoaflofaaGreat
open Go.RowKit
set_option maxRecDepth 100000
/-- The first p arrows are kept: whoever they lead to from a, or from one that is marked, is marked. -/
def Cl13 (l : List (Int × Int)) (n : Nat) (a : Int) (m : Nat → Bool) (p : Nat) : Prop :=
  ∀ q, q < p → ∀ x y : Nat, arr l q = ((x : Int), (y : Int)) → x < n → y < n → ((x : Int) = a ∨ m x = true) → m y = true
theorem Cl13.next {l : List (Int × Int)} {n p : Nat} {a : Int} {m : Nat → Bool} (h : Cl13 l n a m p) (hp : ∀ x y : Nat, arr l p = ((x : Int), (y : Int)) → x < n → y < n → ((x : Int) = a ∨ m x = true) → m y = true) : Cl13 l n a m (p + 1) := by
  intro q hq
  rcases (show q < p ∨ q = p by omega) with h1 | rfl
  · exact h q h1
  · exact hp
theorem arr_mem {l : List (Int × Int)} {n x y : Nat} (h : (x, y) ∈ cut13 n l) : ∃ q, q < l.length ∧ arr l q = ((x : Int), (y : Int)) := by
  obtain ⟨q, hq, he⟩ := List.getElem_of_mem (cut13_mem.1 h).1
  exact ⟨q, hq, by simp [arr, List.getElem?_eq_getElem hq, he]⟩
theorem arr_in {l : List (Int × Int)} {n x y q : Nat} (hq : q < l.length) (h : arr l q = ((x : Int), (y : Int))) (hx : x < n) (hy : y < n) : (x, y) ∈ cut13 n l := by
  refine cut13_mem.2 ⟨?_, hx, hy⟩
  rw [← h]
  have : arr l q = l[q] := by simp [arr, List.getElem?_eq_getElem hq]
  rw [this]
  exact List.getElem_mem hq
theorem Cl13.end_ {l : List (Int × Int)} {n b : Nat} {m : Nat → Bool} (h : Cl13 l n (b : Int) m l.length) (hs : ∀ x, m x = true → ∃ b' : Nat, (b : Int) = (b' : Int) ∧ Way (cut13 n l) b' x) : ∀ y, m y = wayb (cut13 n l) b y :=
  mark13 (fun x hx => by
    obtain ⟨b', h1, h2⟩ := hs x hx
    obtain rfl : b' = b := by omega
    exact h2) (fun x y hx hxy => by
    obtain ⟨q, hq, he⟩ := arr_mem hxy
    obtain ⟨h1, h2⟩ := cut13_lt hxy
    exact h q hq x y he h1 h2 (hx.imp (fun e => by rw [e]) id))
theorem Bb13.step {w w' : World} {g n : Nat} {m : Nat → Bool} (q : Bb13 w g n m) (hb : Below w.heap.size w w') : Bb13 w' g n m := by
  obtain ⟨cs, h1, h2⟩ := q
  exact ⟨cs, h1.below hb h1.lt, h2⟩
theorem made_b13 (W : World) (n : Nat) : Bb13 (W.alloc (.cells (madeCells #[.bool false] n) 4)) W.heap.size n (fun _ => false) := made13 W 4 n (.bool false)
def bn13 (b : Bool) : Nat := if b then 1 else 0
/-- What the document's Reach says. -/
def RetR13 (w : World) (n : Nat) (l : List (Int × Int)) (a : Int) (e : Ending) (w' : World) : Prop :=
  ∃ g T, e = .returned (.slice (some ⟨g, 0, none⟩) n n) ∧ Rv w' w'.heap.size (some ⟨g, 0, none⟩) (bls T n) ∧ (∀ b : Nat, a = (b : Int) → ∀ y, T y = wayb (cut13 n l) b y) ∧ Below w.heap.size w w'
set_option maxHeartbeats 8000000 in
theorem rreach13_any (n : Nat) (Ad : Option Addr) (l : List (Int × Int)) (m c : Nat) (a : Int) (w : World) (hl : l.length = m) (hr : Aq w w.heap.size Ad l) (hm : m ≤ 1000000) (hn : n ≤ 1000000) :
    Calls Tryz.prog 101 #[.int .i64 (n : Int), .slice Ad m c, .int .i64 a] w (RetR13 w n l a) := by
  have HP : Hid (RetR13 w n l a = fun e w' => ∃ g T, e = .returned (.slice (some ⟨g, 0, none⟩) n n) ∧ Rv w' w'.heap.size (some ⟨g, 0, none⟩) (bls T n) ∧ (∀ b : Nat, a = (b : Int) → ∀ y, T y = wayb (cut13 n l) b y) ∧ Below w.heap.size w w') := Lib.hid rfl
  have HR := Lib.hid hr
  have HL := Lib.hid hl
  have hmk := make_bools13 n hn
  have HM0 := Lib.hid (made_b13 w n)
  have HB0 := Lib.hid (b1' w (.cells (madeCells #[.bool false] n) 4))
  have hun0 := un13_le (fun _ => false) n
  clear hr hl
  go_enter Tryz.func101, Tryz.ntmps101
  go_wp2_with fail
  clear hmk
  go_loopg [8] (n + 2) (fun kx v wr => ∃ (K : Nat) (mk : Nat → Bool) (ag : Bool), K = kx ∧ v = .bool ag ∧ un13 mk n + bn13 ag ≤ K ∧ Hid (Bb13 wr w.heap.size n mk) ∧ Hid (∀ x, mk x = true → ∃ b : Nat, a = (b : Int) ∧ Way (cut13 n l) b x) ∧ Hid (ag = false → Cl13 l n a mk m) ∧ Hid (Below w.heap.size w wr))
  case atStart => exact ⟨n + 2, _, true, rfl, rfl, by simp only [bn13, if_true]; omega, HM0, Lib.hid (fun x h => by cases h), Lib.hid (fun h => by cases h), HB0⟩
  case round =>
    clear HM0 HB0 hun0
    obtain ⟨K, mk, ag, rfl, rfl, hme, HM, HS, HC, HB⟩ := hrel
    cases ag with
    | false =>
      have HRV := Lib.hid (HM.out.rv (T := mk) (fun _ => rfl))
      have HCL := Lib.hid (HC.out rfl)
      go_wp2_with fail
      go_ret
      rw [HP.out]
      refine ⟨w.heap.size, mk, rfl, HRV.out, fun b hb => ?_, HB.out⟩
      subst hb
      have h1 := HCL.out
      have h2 := HL.out
      rw [← h2] at h1
      exact h1.end_ HS.out
    | true =>
      have hme2 : un13 mk n + 1 ≤ K := hme
      clear hme HC
      go_wp2_with fail
      go_loopw [8, 9] (fun v iv wi => ∃ (p : Nat) (mk2 : Nat → Bool) (ag : Bool), v = .bool ag ∧ iv = .int .i64 (p : Int) ∧ p ≤ m ∧ un13 mk2 n + bn13 ag + 1 ≤ K ∧ Hid (Bb13 wi w.heap.size n mk2) ∧ Hid (∀ x, mk2 x = true → ∃ b : Nat, a = (b : Int) ∧ Way (cut13 n l) b x) ∧ Hid (ag = false → Cl13 l n a mk2 p) ∧ Hid (Below w.heap.size w wi)) (fun _ iv _ => m - (intOf iv).toNat)
      case atStart => exact ⟨0, mk, false, rfl, rfl, by omega, by simp [bn13]; omega, HM, HS, Lib.hid (fun _ q hq => by omega), HB⟩
      case round =>
        clear HM HS HB hme2
        obtain ⟨p, mk2, ag, rfl, rfl, hp, hme, HM, HS, HC, HB⟩ := hrel
        by_cases hpm : p < m
        · have hpl : p < l.length := by have := HL.out; omega
          obtain ⟨ba, o, hA, _, c0, c1⟩ := Aq.at_ (Rv.below HR.out HB.out (Nat.le_refl _)) hpl
          subst hA
          obtain ⟨fi, hfi⟩ : ∃ x, (arr l p).1 = x := ⟨_, rfl⟩
          obtain ⟨ti, hti⟩ : ∃ x, (arr l p).2 = x := ⟨_, rfl⟩
          rw [hfi] at c0
          rw [hti] at c1
          have HAR : Hid (arr l p = (fi, ti)) := Lib.hid (by rw [← hfi, ← hti])
          have hb1 := b1' wr (.cells #[.int .i64 fi, .int .i64 ti] 86)
          have hbk := Blk.new wr 86 #[.int .i64 fi, .int .i64 ti]
          have x0 := hbk.cell 0
          have x1 := hbk.cell 1
          have HM1 := Lib.hid (HM.out.step hb1)
          have HB1 := Lib.hid (HB.out.trans (hb1.mono HB.out.size))
          have i0 : (0 : Int) ≤ (p : Int) := by omega
          have i1 : (p : Int) < (m : Int) := by omega
          clear hfi hti hb1 hbk
          by_cases hf0 : fi < 0
          · have HC1 : Hid (ag = false → Cl13 l n a mk2 (p + 1)) := Lib.hid (fun h => (HC.out h).next (fun x y he hx hy hh => by
              rw [HAR.out] at he
              injection he with h1 h2
              omega))
            go_wp2_with fail
            go_roundw
            case rel => exact ⟨p + 1, mk2, ag, rfl, by go_num, by omega, hme, HM1, HS, HC1, HB1⟩
            case measure => simp [intOf]; omega
          · by_cases hfn : (n : Int) ≤ fi
            · have HC1 : Hid (ag = false → Cl13 l n a mk2 (p + 1)) := Lib.hid (fun h => (HC.out h).next (fun x y he hx hy hh => by
                rw [HAR.out] at he
                injection he with h1 h2
                omega))
              go_wp2_with fail
              go_roundw
              case rel => exact ⟨p + 1, mk2, ag, rfl, by go_num, by omega, hme, HM1, HS, HC1, HB1⟩
              case measure => simp [intOf]; omega
            · by_cases ht0 : ti < 0
              · have HC1 : Hid (ag = false → Cl13 l n a mk2 (p + 1)) := Lib.hid (fun h => (HC.out h).next (fun x y he hx hy hh => by
                  rw [HAR.out] at he
                  injection he with h1 h2
                  omega))
                go_wp2_with fail
                go_roundw
                case rel => exact ⟨p + 1, mk2, ag, rfl, by go_num, by omega, hme, HM1, HS, HC1, HB1⟩
                case measure => simp [intOf]; omega
              · by_cases htn : (n : Int) ≤ ti
                · have HC1 : Hid (ag = false → Cl13 l n a mk2 (p + 1)) := Lib.hid (fun h => (HC.out h).next (fun x y he hx hy hh => by
                    rw [HAR.out] at he
                    injection he with h1 h2
                    omega))
                  go_wp2_with fail
                  go_roundw
                  case rel => exact ⟨p + 1, mk2, ag, rfl, by go_num, by omega, hme, HM1, HS, HC1, HB1⟩
                  case measure => simp [intOf]; omega
                · obtain ⟨f, rfl⟩ : ∃ f : Nat, fi = (f : Int) := ⟨fi.toNat, by omega⟩
                  obtain ⟨t, rfl⟩ : ∃ t : Nat, ti = (t : Int) := ⟨ti.toNat, by omega⟩
                  have hfN : f < n := by omega
                  have htN : t < n := by omega
                  obtain ⟨mt, mtf⟩ := HM1.out.cells htN
                  obtain ⟨mf, mff⟩ := HM1.out.cells hfN
                  have t0 : (0 : Int) ≤ (t : Int) := by omega
                  have t1 : (t : Int) < (n : Int) := by omega
                  have f0 : (0 : Int) ≤ (f : Int) := by omega
                  have f1 : (f : Int) < (n : Int) := by omega
                  cases hmt : mk2 t with
                  | true =>
                    rw [hmt] at mt
                    have HC1 : Hid (ag = false → Cl13 l n a mk2 (p + 1)) := Lib.hid (fun h => (HC.out h).next (fun x y he hx hy hh => by
                      rw [HAR.out] at he
                      injection he with h1 h2
                      obtain rfl : t = y := by omega
                      exact hmt))
                    clear hmt mf mff mtf
                    go_wp2_with fail
                    go_roundw
                    case rel => exact ⟨p + 1, mk2, ag, rfl, by go_num, by omega, hme, HM1, HS, HC1, HB1⟩
                    case measure => simp [intOf]; omega
                  | false =>
                    rw [hmt] at mt
                    have hun := un13_mark htN hmt
                    have HIN := Lib.hid (arr_in hpl HAR.out hfN htN)
                    by_cases hfa : (f : Int) = a
                    · have HM2 := Lib.hid (HM1.out.put htN true)
                      have HB2 := Lib.hid (HB1.out.setCell (p := ⟨w.heap.size, t, none⟩) (Nat.le_refl _) (.bool true))
                      have HS2 : Hid (∀ x, upd mk2 t true x = true → ∃ b : Nat, a = (b : Int) ∧ Way (cut13 n l) b x) := Lib.hid (fun x hx => by
                        by_cases e : x = t
                        · subst e
                          exact ⟨f, hfa.symm, .one HIN.out⟩
                        · rw [upd_far _ _ e] at hx
                          exact HS.out x hx)
                      have hbn : bn13 ag ≤ 1 := by unfold bn13; split <;> omega
                      subst hfa
                      clear hmt mf mff
                      go_wp2_with fail
                      go_roundw
                      case rel => exact ⟨p + 1, _, true, rfl, by go_num, by omega, by simp only [bn13, if_true]; omega, HM2, HS2, Lib.hid (fun h => by cases h), HB2⟩
                      case measure => simp [intOf]; omega
                    · have hfa2 : ((f : Int) == a) = false := by simp [hfa]
                      cases hmf : mk2 f with
                      | true =>
                        rw [hmf] at mf
                        have HM2 := Lib.hid (HM1.out.put htN true)
                        have HB2 := Lib.hid (HB1.out.setCell (p := ⟨w.heap.size, t, none⟩) (Nat.le_refl _) (.bool true))
                        have HS2 : Hid (∀ x, upd mk2 t true x = true → ∃ b : Nat, a = (b : Int) ∧ Way (cut13 n l) b x) := Lib.hid (fun x hx => by
                          by_cases e : x = t
                          · subst e
                            obtain ⟨b, h1, h2⟩ := HS.out f hmf
                            exact ⟨b, h1, h2.step HIN.out⟩
                          · rw [upd_far _ _ e] at hx
                            exact HS.out x hx)
                        clear hmt hmf mff
                        go_wp2_with fail
                        go_roundw
                        case rel => exact ⟨p + 1, _, true, rfl, by go_num, by omega, by simp only [bn13, if_true]; omega, HM2, HS2, Lib.hid (fun h => by cases h), HB2⟩
                        case measure => simp [intOf]; omega
                      | false =>
                        rw [hmf] at mf
                        have HC1 : Hid (ag = false → Cl13 l n a mk2 (p + 1)) := Lib.hid (fun h => (HC.out h).next (fun x y he hx hy hh => by
                          rw [HAR.out] at he
                          injection he with h1 h2
                          obtain rfl : f = x := by omega
                          rcases hh with h3 | h3
                          · exact absurd h3 hfa
                          · rw [hmf] at h3
                            cases h3))
                        clear hmt hmf mff
                        go_wp2_with fail
                        go_roundw
                        case rel => exact ⟨p + 1, mk2, ag, rfl, by go_num, by omega, hme, HM1, HS, HC1, HB1⟩
                        case measure => simp [intOf]; omega
        · obtain rfl : p = m := by omega
          have p1 : ¬ (p : Int) < (p : Int) := by omega
          go_wp2_with fail
          go_roundg (un13 mk2 n + bn13 ag)
          case measure => omega
          case rel => exact ⟨_, mk2, ag, rfl, rfl, Nat.le_refl _, HM, HS, HC, HB⟩
set_option maxHeartbeats 4000000 in
theorem rring13_any (n : Nat) (Ad : Option Addr) (l : List (Int × Int)) (m c : Nat) (os : List Nat) (w : World) (hl : l.length = m) (hr : Aq w w.heap.size Ad l) (hm : m ≤ 1000000) (hn : n ≤ 1000000) (hd : Done13 (cut13 n l) n os) :
    Calls Tryz.prog 52 #[.int .i64 (n : Int), .slice Ad m c] w fun e w' => e = .returned (.bool (!decide (os.length = n))) ∧ Below w.heap.size w w' := by
  have HR := Lib.hid hr
  have HL := Lib.hid hl
  have HIN : Hid (In13 (cut13 n l) n) := Lib.hid (fun p hp => cut13_lt hp)
  have HRG := Lib.hid (hd.ring HIN.out)
  have hle := hd.1.len
  have HC := Lib.hid (fun (i : Nat) (W : World) (hb : Below w.heap.size w W) => rreach13_any n Ad l m c (i : Int) W hl (Rv.step hr hb) hm hn)
  obtain ⟨b, hbb⟩ : ∃ b, (!decide (os.length = n)) = b := ⟨_, rfl⟩
  have HBB := Lib.hid hbb
  have HLE := Lib.hid hle
  rw [hbb]
  clear hr hl hd hbb hle
  go_enter Tryz.func52, Tryz.ntmps52
  go_wp2_with fail
  go_loopw [5] (fun iv wr => ∃ i : Nat, iv = .int .i64 (i : Int) ∧ i ≤ n ∧ Hid (∀ j, j < i → wayb (cut13 n l) j j = false) ∧ Hid (Below w.heap.size w wr)) (fun iv _ => n - (intOf iv).toNat)
  case atStart => exact ⟨0, rfl, by omega, Lib.hid (fun j h => by omega), Lib.hid (Below.refl _ _)⟩
  case round =>
    obtain ⟨i, rfl, hi, HF, HB⟩ := hrel
    by_cases hin : i < n
    · have HCI := Lib.hid (HC.out i wr HB.out)
      have i0 : (0 : Int) ≤ (i : Int) := by omega
      have i1 : (i : Int) < (n : Int) := by omega
      go_wp2_with fail
      refine HCI.out.mono ?_
      rintro e w1 ⟨g, T, rfl, hrv, hT, hb1⟩
      obtain ⟨a, o, hA, _, ca⟩ := bls_at hrv hin
      injection hA with hA
      injection hA with hA1 hA2
      subst hA1 hA2
      rw [Nat.zero_add] at ca
      have hTi := hT i rfl i
      have HB1 := Lib.hid (HB.out.trans (hb1.mono HB.out.size))
      clear HCI hrv hT hb1
      cases ht : T i with
      | true =>
        rw [ht] at ca hTi
        have HBT : Hid (b = true) := Lib.hid (by
          have h1 := HRG.out.1 ⟨i, wayb_yes.1 hTi.symm⟩
          rw [← HBB.out, decide_eq_false (by omega)]
          rfl)
        clear ht hTi
        go_wp2_with fail
        go_ret
        exact ⟨by rw [HBT.out]; rfl, HB1.out⟩
      | false =>
        rw [ht] at ca hTi
        have HF1 : Hid (∀ j, j < i + 1 → wayb (cut13 n l) j j = false) := Lib.hid (fun j hj => by
          rcases (show j < i ∨ j = i by omega) with h | rfl
          · exact HF.out j h
          · exact hTi.symm)
        clear ht hTi
        go_wp2_with fail
        go_roundw
        case rel => exact ⟨i + 1, by go_num, by omega, HF1, HB1⟩
        case measure => simp [intOf]; omega
    · obtain rfl : i = n := by omega
      have HBF : Hid (b = false) := Lib.hid (by
        have h1 : ¬ Rng13 (cut13 i l) := by
          rintro ⟨j, hj⟩
          have h2 := HF.out j (hj.lt HIN.out).1
          rw [wayb_yes.2 hj] at h2
          cases h2
        have h3 : ¬ os.length < i := fun h => h1 (HRG.out.2 h)
        rw [← HBB.out, decide_eq_true (by have := HLE.out; omega)]
        rfl)
      have i1 : ¬ (i : Int) < (i : Int) := by omega
      go_wp2_with fail
      go_ret
      exact ⟨by rw [HBF.out]; rfl, HB.out⟩
end Go.Proofs.YtfoellhoaflofaaGreat
namespace Go.Proofs.YtfoellhoaflofaaGreat
open Go.RowKit
set_option maxRecDepth 100000
/-- The arrows of coins, of the first k tickets. -/
def cArr14 (S : Sv14) : Nat → List (Int × Int)
  | 0 => []
  | k + 1 => cArr14 S k ++ if (gt14 S.T k).u = true ∧ (gt14 S.T k).k = 2 then [((gt14 S.T k).c, (gt14 S.T k).t)] else []
/-- The arrows of threads, of the first k of them. -/
def tArr14 (S : Sv14) : Nat → List (Int × Int)
  | 0 => []
  | k + 1 => tArr14 S k ++ if (gt14 S.H k).s = 4 then [((k : Int), (gt14 S.H k).f)] else if (gt14 S.H k).s = 6 then [((k : Int), (at14 usL S.L (gt14 S.H k).f).h)] else []
theorem cArr14_len (S : Sv14) (k : Nat) : (cArr14 S k).length ≤ k := by
  induction k with
  | zero => exact Nat.le_refl _
  | succ k ih => rw [cArr14, List.length_append]; split <;> simp <;> omega
theorem tArr14_len (S : Sv14) (k : Nat) : (tArr14 S k).length ≤ k := by
  induction k with
  | zero => exact Nat.le_refl _
  | succ k ih => rw [tArr14, List.length_append]; split <;> try split
                 all_goals simp <;> omega
theorem info14A : (Tryz.prog.info? 85).map (fun i => (i.zero, i.size, i.bytes)) = some (some (.agg #[.int .i64 0, .int .i64 0]), 2, 16) := by kernel_rfl
theorem aq14_own {w : World} {base : Nat} {e : TypeId} {A : Option Addr} {c n : Nat} {l : List (Int × Int)} (h : w.ownsRow base e 2 (.slice A n c) n (acs l)) : Aq w w.heap.size A l := by
  intro hx
  have hl := h.1
  have hpos : 0 < (acs l).length := List.length_pos_iff.2 hx
  rcases h.2 with ⟨_, h1⟩ | ⟨g, cap, cur, hv, _, hh, _⟩
  · subst h1
    rw [hl, Nat.zero_mul] at hpos
    omega
  · have hA : A = some ⟨g, 0, none⟩ := by injection hv
    subst hA
    refine ⟨g, 0, rfl, (h.lt g rfl).2, fun i v hk => ?_⟩
    have hc := h.cells (g := g) rfl i _ hk
    rw [Go.WideShapes.add_plain] at hc
    exact hc
/-- A list of arrows is answered. -/
def RetAq14 (w : World) (l : List (Int × Int)) (e : Ending) (w' : World) : Prop := ∃ A c, e = .returned (.slice A l.length c) ∧ Aq w' w'.heap.size A l ∧ Below w.heap.size w w'
/-- Between two rounds: the row of arrows so far. -/
structure Ar14 (w : World) (S : Sv14) (A0 A1 A2 A3 A4 : Option Addr) (n0 n1 n2 n3 n4 c0 c1 c2 c3 c4 : Nat) (sq : Int) (A : Option Addr) (m c : Nat) (l : List (Int × Int)) (W : World) : Prop where
  b : Bx14 w S A0 A1 A2 A3 A4 n0 n1 n2 n3 n4 c0 c1 c2 c3 c4 sq W
  o : W.ownsRow (w.heap.size + 1) 85 2 (.slice A m c) m (acs l)
  l : l.length = m
theorem Ar14.step {w : World} {S : Sv14} {A0 A1 A2 A3 A4 : Option Addr} {n0 n1 n2 n3 n4 c0 c1 c2 c3 c4 : Nat} {sq : Int} {A : Option Addr} {m c : Nat} {l : List (Int × Int)} {W W' : World} (h : Ar14 w S A0 A1 A2 A3 A4 n0 n1 n2 n3 n4 c0 c1 c2 c3 c4 sq A m c l W) (hb : Below W.heap.size W W') : Ar14 w S A0 A1 A2 A3 A4 n0 n1 n2 n3 n4 c0 c1 c2 c3 c4 sq A m c l W' :=
  ⟨h.b.step hb, own12_keep2 h.o hb, h.l⟩
theorem Ar14.congr {w : World} {S : Sv14} {A0 A1 A2 A3 A4 : Option Addr} {n0 n1 n2 n3 n4 c0 c1 c2 c3 c4 : Nat} {sq : Int} {A : Option Addr} {m c : Nat} {l l2 : List (Int × Int)} {W : World} (h : Ar14 w S A0 A1 A2 A3 A4 n0 n1 n2 n3 n4 c0 c1 c2 c3 c4 sq A m c l W) (e : l = l2) : Ar14 w S A0 A1 A2 A3 A4 n0 n1 n2 n3 n4 c0 c1 c2 c3 c4 sq A m c l2 W := e ▸ h
/-- An arrow is appended. -/
theorem Ar14.push {w : World} {S : Sv14} {A0 A1 A2 A3 A4 : Option Addr} {n0 n1 n2 n3 n4 c0 c1 c2 c3 c4 : Nat} {sq : Int} {A : Option Addr} {m c : Nat} {l : List (Int × Int)} {W : World} (hs : SA14 w S A0 A1 A2 A3 A4 n0 n1 n2 n3 n4 c0 c1 c2 c3 c4 sq) (h : Ar14 w S A0 A1 A2 A3 A4 n0 n1 n2 n3 n4 c0 c1 c2 c3 c4 sq A m c l W) (x y : Int) (hm : m ≤ 2000) :
    ∃ Az cz W2, (Builtin.append_ #[37, 37] 37 #[.slice A m c, .slice (some ⟨W.heap.size, 0, none⟩) 1 1]).run Tryz.prog (W.alloc (.cells #[.int .i64 x, .int .i64 y] 85)) = .ok (.slice Az (m + 1) cz) W2 ∧ Ar14 w S A0 A1 A2 A3 A4 n0 n1 n2 n3 n4 c0 c1 c2 c3 c4 sq Az (m + 1) cz (l ++ [(x, y)]) W2 := by
  have hbz := b1' W (.cells #[.int .i64 x, .int .i64 y] 85)
  have hkz := Blk.new W 85 #[.int .i64 x, .int .i64 y]
  have h1 := h.step hbz
  have hsy : (W.alloc (.cells #[.int .i64 x, .int .i64 y] 85)).heap.size = W.heap.size + 1 := by simp
  obtain ⟨Y, hY⟩ : ∃ Y, W.alloc (.cells #[.int .i64 x, .int .i64 y] 85) = Y := ⟨_, rfl⟩
  rw [hY] at hbz hkz h1 hsy ⊢
  have hrv : Rv Y Y.heap.size (some ⟨W.heap.size, 0, none⟩) [.int .i64 x, .int .i64 y] := fun _ => ⟨W.heap.size, 0, rfl, by omega, fun j v hj => by rw [Nat.zero_add, hkz.cell]; simpa using hj⟩
  have hxl := h1.b.x.lt
  obtain ⟨Az, cz, W2, hrun, hown, hg⟩ := run_append_14 (P := Tryz.prog) Y (w.heap.size + 1) 37 37 85 _ 2 16 Tryz.underlying37 info14A rfl (by omega) (by omega) _ m _ h1.o Y.heap.size (some ⟨W.heap.size, 0, none⟩) [.int .i64 x, .int .i64 y] 1 1 rfl hrv (by simp [Value.oneCell']) (by omega) (by omega)
  have hB : Below w.heap.size w W2 := h1.b.b.grown hg h1.b.b.size (fun r hr => by have := (h1.o.lt r hr).1; omega)
  refine ⟨Az, cz, W2, hrun, ⟨hB, h1.b.x.grown hg (fun e => by have := (h1.o.lt _ e.symm).1; omega), hs.step hB⟩, ?_, by simp [h.l]⟩
  rw [acs_append]
  exact hown
set_option maxHeartbeats 2000000 in
theorem coinArrows14 (v : Value) (S : Sv14) (w : World) (h : St14 w v S) : Calls Tryz.prog 16 #[v] w (RetAq14 w (cArr14 S S.T.length)) := by
  obtain ⟨A0, A1, A2, A3, A4, n0, n1, n2, n3, n4, c0, c1, c2, c3, c4, sq, rfl, hs⟩ := h
  have HP : Hid (RetAq14 w (cArr14 S S.T.length) = fun e w' => ∃ A c, e = .returned (.slice A (cArr14 S n1).length c) ∧ Aq w' w'.heap.size A (cArr14 S n1) ∧ Below w.heap.size w w') := Lib.hid (by rw [hs.l1]; rfl)
  have HX0 : Hid (Ar14 w S A0 A1 A2 A3 A4 n0 n1 n2 n3 n4 c0 c1 c2 c3 c4 sq none 0 0 (cArr14 S 0) (w.alloc (.cells #[.slice A0 n0 c0, .slice A1 n1 c1, .slice A2 n2 c2, .slice A3 n3 c3, .slice A4 n4 c4, .int .i64 sq] 28))) := Lib.hid ⟨Bx14.new hs, World.ownsRow_nil _ _ _ _, rfl⟩
  have HS := Lib.hid hs
  have hnb := hs.m1
  have t1 := HX0.out.b.x.cell 1
  clear hs
  go_enter Tryz.func16, Tryz.ntmps16
  go_wp2_with fail
  clear t1
  go_loopw [2, 8] (fun v i wr => ∃ (k : Nat) (A : Option Addr) (m c : Nat), v = .slice A m c ∧ i = .int .i64 (k : Int) ∧ k ≤ n1 ∧ Hid (Ar14 w S A0 A1 A2 A3 A4 n0 n1 n2 n3 n4 c0 c1 c2 c3 c4 sq A m c (cArr14 S k) wr)) (fun _ i _ => n1 - (intOf i).toNat)
  case atStart => exact ⟨0, none, 0, 0, rfl, rfl, by omega, HX0⟩
  case round =>
    obtain ⟨k, A, m, c, rfl, rfl, hk, HW⟩ := hrel
    by_cases hkn : k < n1
    · skip
      obtain ⟨a, of, hA, hab, hq⟩ := Lq.at_ len14T (by omega) HW.out.b.s.r1 (show k < S.T.length by rw [HW.out.b.s.l1]; omega)
      have HAE := Lib.hid hA
      obtain ⟨x, hx⟩ : ∃ x, gt14 S.T k = x := ⟨_, rfl⟩
      rw [hx] at hq
      obtain ⟨xu, xc, xa, xk, xt, xo⟩ := x
      have e0 : wr.cell? ⟨a, of + k * 6, none⟩ = some (.bool xu) := hq 0 _ rfl
      have e1 : wr.cell? ⟨a, of + k * 6 + 1, none⟩ = some (.int .i64 xc) := hq 1 _ rfl
      have e2 : wr.cell? ⟨a, of + k * 6 + 2, none⟩ = some (.int .i64 xa) := hq 2 _ rfl
      have e3 : wr.cell? ⟨a, of + k * 6 + 3, none⟩ = some (.int .i64 xk) := hq 3 _ rfl
      have e4 : wr.cell? ⟨a, of + k * 6 + 4, none⟩ = some (.int .i64 xt) := hq 4 _ rfl
      have e5 : wr.cell? ⟨a, of + k * 6 + 5, none⟩ = some (.bool xo) := hq 5 _ rfl
      have i0 : (0 : Int) ≤ (k : Int) := by omega
      have i1 : (k : Int) < (n1 : Int) := by omega
      have HV := Lib.hid (Ar14.step HW.out (b1' wr (.cells #[.bool xu, .int .i64 xc, .int .i64 xa, .int .i64 xk, .int .i64 xt, .bool xo] 43)))
      have hv := Blk.new wr 43 #[.bool xu, .int .i64 xc, .int .i64 xa, .int .i64 xk, .int .i64 xt, .bool xo]
      have v0 := hv.cell 0
      have v1 := hv.cell 1
      have v2 := hv.cell 2
      have v3 := hv.cell 3
      have v4 := hv.cell 4
      have v5 := hv.cell 5
      have HVB := Lib.hid hv
      have HXE := Lib.hid hx
      have p0 := HV.out.b.x.cell 0
      have p1 := HV.out.b.x.cell 1
      have p2 := HV.out.b.x.cell 2
      have p3 := HV.out.b.x.cell 3
      have p4 := HV.out.b.x.cell 4
      have p5 := HV.out.b.x.cell 5
      obtain ⟨X, hX⟩ : ∃ X, wr.alloc (.cells #[.bool xu, .int .i64 xc, .int .i64 xa, .int .i64 xk, .int .i64 xt, .bool xo] 43) = X := ⟨_, rfl⟩
      rw [hX] at HV HVB v0 v1 v2 v3 v4 v5 p0 p1 p2 p3 p4 p5
      clear hv hq hx hab
      subst hA
      have hmk : m ≤ k := by rw [← HW.out.l]; exact cArr14_len S k
      cases xu with
      | false =>
        have HN := Lib.hid (HV.out.congr (l2 := cArr14 S (k + 1)) (by rw [cArr14, HXE.out, if_neg (by simp), List.append_nil]))
        go_wp2_with fail
        go_roundw
        case rel => exact ⟨k + 1, A, m, c, rfl, by go_num, by omega, HN⟩
        case measure => simp [intOf]; omega
      | true =>
        by_cases k2 : xk = 2
        · subst k2
          have HE : Hid (cArr14 S (k + 1) = cArr14 S k ++ [(xc, xt)]) := Lib.hid (by rw [cArr14, HXE.out, if_pos (by simp)])
          obtain ⟨Az, cz, W2, hrun, har⟩ := HV.out.push HS.out xc xt (by omega)
          have HRUN := Lib.hid hrun
          have HAR := Lib.hid (har.congr HE.out.symm)
          clear hrun har
          go_wp2_with (at_builtin; go_loud (refine wpList_append_14 _ rfl (.tmp 19) (.tmp 25) 37 rfl _ _ _ _ rfl rfl HRUN.out ?_))
          go_roundw
          case rel => exact ⟨k + 1, Az, m + 1, cz, rfl, by go_num, by omega, HAR⟩
          case measure => simp [intOf]; omega
        · have HN := Lib.hid (HV.out.congr (l2 := cArr14 S (k + 1)) (by rw [cArr14, HXE.out, if_neg (by simp [k2]), List.append_nil]))
          go_wp2_with fail
          go_roundw
          case rel => exact ⟨k + 1, A, m, c, rfl, by go_num, by omega, HN⟩
          case measure => simp [intOf]; omega
    · obtain rfl : k = n1 := by omega
      have HL := Lib.hid HW.out.l
      have h1 : ¬ (k : Int) < (k : Int) := by omega
      go_wp2_with fail
      go_ret
      rw [HP.out]
      exact ⟨A, c, by rw [HL.out]; rfl, aq14_own HW.out.o, HW.out.b.b⟩
set_option maxHeartbeats 2000000 in
theorem threadArrows14 (v : Value) (S : Sv14) (w : World) (h : St14 w v S) : Calls Tryz.prog 18 #[v] w (RetAq14 w (tArr14 S S.H.length)) := by
  obtain ⟨A0, A1, A2, A3, A4, n0, n1, n2, n3, n4, c0, c1, c2, c3, c4, sq, rfl, hs⟩ := h
  have HP : Hid (RetAq14 w (tArr14 S S.H.length) = fun e w' => ∃ A c, e = .returned (.slice A (tArr14 S n2).length c) ∧ Aq w' w'.heap.size A (tArr14 S n2) ∧ Below w.heap.size w w') := Lib.hid (by rw [hs.l2]; rfl)
  have HX0 : Hid (Ar14 w S A0 A1 A2 A3 A4 n0 n1 n2 n3 n4 c0 c1 c2 c3 c4 sq none 0 0 (tArr14 S 0) (w.alloc (.cells #[.slice A0 n0 c0, .slice A1 n1 c1, .slice A2 n2 c2, .slice A3 n3 c3, .slice A4 n4 c4, .int .i64 sq] 28))) := Lib.hid ⟨Bx14.new hs, World.ownsRow_nil _ _ _ _, rfl⟩
  have HS := Lib.hid hs
  have hnb := hs.m2
  have t1 := HX0.out.b.x.cell 2
  clear hs
  go_enter Tryz.func18, Tryz.ntmps18
  go_wp2_with fail
  clear t1
  go_loopw [2, 10] (fun v i wr => ∃ (k : Nat) (A : Option Addr) (m c : Nat), v = .slice A m c ∧ i = .int .i64 (k : Int) ∧ k ≤ n2 ∧ Hid (Ar14 w S A0 A1 A2 A3 A4 n0 n1 n2 n3 n4 c0 c1 c2 c3 c4 sq A m c (tArr14 S k) wr)) (fun _ i _ => n2 - (intOf i).toNat)
  case atStart => exact ⟨0, none, 0, 0, rfl, rfl, by omega, HX0⟩
  case round =>
    obtain ⟨k, A, m, c, rfl, rfl, hk, HW⟩ := hrel
    by_cases hkn : k < n2
    · skip
      obtain ⟨a, of, hA, hab, hq⟩ := Lq.at_ len14H (by omega) HW.out.b.s.r2 (show k < S.H.length by rw [HW.out.b.s.l2]; omega)
      have HAE := Lib.hid hA
      obtain ⟨x, hx⟩ : ∃ x, gt14 S.H k = x := ⟨_, rfl⟩
      rw [hx] at hq
      obtain ⟨xz, xf, xc, xq, xu⟩ := x
      have e0 : wr.cell? ⟨a, of + k * 5, none⟩ = some (.int .i64 xz) := hq 0 _ rfl
      have e1 : wr.cell? ⟨a, of + k * 5 + 1, none⟩ = some (.int .i64 xf) := hq 1 _ rfl
      have e2 : wr.cell? ⟨a, of + k * 5 + 2, none⟩ = some (.int .i64 xc) := hq 2 _ rfl
      have e3 : wr.cell? ⟨a, of + k * 5 + 3, none⟩ = some (.int .i64 xq) := hq 3 _ rfl
      have e4 : wr.cell? ⟨a, of + k * 5 + 4, none⟩ = some (.int .i64 xu) := hq 4 _ rfl
      have i0 : (0 : Int) ≤ (k : Int) := by omega
      have i1 : (k : Int) < (n2 : Int) := by omega
      have HV := Lib.hid (Ar14.step HW.out (b1' wr (.cells #[.int .i64 xz, .int .i64 xf, .int .i64 xc, .int .i64 xq, .int .i64 xu] 45)))
      have hv := Blk.new wr 45 #[.int .i64 xz, .int .i64 xf, .int .i64 xc, .int .i64 xq, .int .i64 xu]
      have v0 := hv.cell 0
      have v1 := hv.cell 1
      have v2 := hv.cell 2
      have v3 := hv.cell 3
      have v4 := hv.cell 4
      have HVB := Lib.hid hv
      have HXE := Lib.hid hx
      have p0 := HV.out.b.x.cell 0
      have p1 := HV.out.b.x.cell 1
      have p2 := HV.out.b.x.cell 2
      have p3 := HV.out.b.x.cell 3
      have p4 := HV.out.b.x.cell 4
      have p5 := HV.out.b.x.cell 5
      obtain ⟨X, hX⟩ : ∃ X, wr.alloc (.cells #[.int .i64 xz, .int .i64 xf, .int .i64 xc, .int .i64 xq, .int .i64 xu] 45) = X := ⟨_, rfl⟩
      rw [hX] at HV HVB v0 v1 v2 v3 v4 p0 p1 p2 p3 p4 p5
      clear hv hq hx hab
      subst hA
      have hmk : m ≤ k := by rw [← HW.out.l]; exact tArr14_len S k
      by_cases z4 : xz = 4
      · subst z4
        have HE : Hid (tArr14 S (k + 1) = tArr14 S k ++ [((k : Int), xf)]) := Lib.hid (by rw [tArr14, HXE.out, if_pos rfl])
        obtain ⟨Az, cz, W2, hrun, har⟩ := HV.out.push HS.out (k : Int) xf (by omega)
        have HRUN := Lib.hid hrun
        have HAR := Lib.hid (har.congr HE.out.symm)
        clear hrun har
        go_wp2_with (at_builtin; go_loud (refine wpList_append_14 _ rfl (.tmp 19) (.tmp 24) 37 rfl _ _ _ _ rfl rfl HRUN.out ?_))
        go_roundw
        case rel => exact ⟨k + 1, Az, m + 1, cz, rfl, by go_num, by omega, HAR⟩
        case measure => simp [intOf]; omega
      · by_cases z6 : xz = 6
        · subst z6
          obtain ⟨y, hy⟩ : ∃ y, at14 usL S.L xf = y := ⟨_, rfl⟩
          obtain ⟨yu, yh⟩ := y
          have HE : Hid (tArr14 S (k + 1) = tArr14 S k ++ [((k : Int), yh)]) := Lib.hid (by rw [tArr14, HXE.out, if_neg (by simp), if_pos rfl, hy])
          have HLK := Lib.hid (lock14 _ S xf yu yh _ X HV.out.b.st rfl hy)
          clear hy
          go_wp2_with fail
          refine HLK.out.mono ?_
          rintro e u ⟨rfl, hbu⟩
          have HU := Lib.hid (Ar14.step (HV.out.step hbu) (b1' u (.cells #[.bool yu, .int .i64 yh] 47)))
          have hky := Blk.new u 47 #[.bool yu, .int .i64 yh]
          have y1 := hky.cell 1
          obtain ⟨Z, hZ⟩ : ∃ Z, u.alloc (.cells #[.bool yu, .int .i64 yh] 47) = Z := ⟨_, rfl⟩
          rw [hZ] at HU y1
          clear HLK hbu hky
          obtain ⟨Az, cz, W2, hrun, har⟩ := HU.out.push HS.out (k : Int) yh (by omega)
          have HRUN := Lib.hid hrun
          have HAR := Lib.hid (har.congr HE.out.symm)
          clear hrun har
          go_wp2_with (at_builtin; go_loud (refine wpList_append_14 _ rfl (.tmp 35) (.tmp 40) 37 rfl _ _ _ _ rfl rfl HRUN.out ?_))
          go_roundw
          case rel => exact ⟨k + 1, Az, m + 1, cz, rfl, by go_num, by omega, HAR⟩
          case measure => simp [intOf]; omega
        · have HN := Lib.hid (HV.out.congr (l2 := tArr14 S (k + 1)) (by rw [tArr14, HXE.out, if_neg z4, if_neg z6, List.append_nil]))
          go_wp2_with fail
          go_roundw
          case rel => exact ⟨k + 1, A, m, c, rfl, by go_num, by omega, HN⟩
          case measure => simp [intOf]; omega
    · obtain rfl : k = n2 := by omega
      have HL := Lib.hid HW.out.l
      have h1 : ¬ (k : Int) < (k : Int) := by omega
      go_wp2_with fail
      go_ret
      rw [HP.out]
      exact ⟨A, c, by rw [HL.out]; rfl, aq14_own HW.out.o, HW.out.b.b⟩
end Go.Proofs.YtfoellhoaflofaaGreat
namespace Go.Proofs.YtfoellhoaflofaaGreat
open Go.RowKit Go.Shelf
attribute [local go_sem] Oper.semAt_some
set_option maxRecDepth 100000
set_option maxHeartbeats 1000000 in
theorem values14 (A : Option Addr) (n c : Nat) (w : World) :
    Calls Tryz.prog 96 #[.slice A n c] w fun e w' => e = .returned (.func (.func 118) #[] #[.pointer (some ⟨w.heap.size, 0, none⟩)]) ∧ w' = w.alloc (.cells #[.slice A n c] 26) := by
  have hmf : ∀ (fn : Fn) (first cap : Array Value) (w : World), (Instr.makeFunc fn first cap).run Tryz.prog w = .ok (.func fn first cap) w := fun _ _ _ _ => rfl
  go_enter Tryz.func96, Tryz.ntmps96
  go_wp2_with fail
  go_ret
  exact ⟨rfl, rfl⟩
/-- What the k-th round is handed. -/
def venc14 (zs : List Int) (k : Nat) : Array Value := #[.int .i64 (gt14 zs k)]
/-- What must stay behind each round. -/
def vkeep14 (lb _ : Nat) (p : Addr) : Prop := p.block = lb
/-- The list's cells. -/
def Zq14 (w : World) (lb : Nat) (A : Option Addr) (zs : List Int) : Prop := zs = [] ∨ ∃ o, A = some ⟨lb, o, none⟩ ∧ lb < w.heap.size ∧ ∀ t, t < zs.length → w.cell? ⟨lb, o + t, none⟩ = some (.int .i64 (gt14 zs t))
theorem zq14_of {w : World} {A : Option Addr} {zs : List Int} (h0 : 0 < w.heap.size) (h : Lq clI w w.heap.size A zs) : ∃ lb, lb < w.heap.size ∧ Zq14 w lb A zs := by
  by_cases hz : zs = []
  · exact ⟨0, by omega, .inl hz⟩
  · have hl : 0 < zs.length := List.length_pos_iff.2 hz
    obtain ⟨b, o, hA, hb, _⟩ := Lq.at_ len14I (by omega) h hl
    refine ⟨b, by omega, .inr ⟨o, hA, hb, fun t ht => ?_⟩⟩
    obtain ⟨b2, o2, hA2, _, hq⟩ := Lq.at_ len14I (by omega) h ht
    rw [hA] at hA2
    injection hA2 with hA2
    injection hA2 with h1 h2
    subst h1 h2
    have h3 := hq 0 _ rfl
    rwa [Nat.mul_one] at h3
theorem Zq14.below {w w' : World} {lb : Nat} {A : Option Addr} {zs : List Int} (h : Zq14 w lb A zs) (hb : Below w.heap.size w w') : Zq14 w' lb A zs := by
  rcases h with h | ⟨o, h1, h2, h3⟩
  · exact .inl h
  · exact .inr ⟨o, h1, Nat.lt_of_lt_of_le h2 hb.size, fun t ht => (hb.cell (p := ⟨lb, o + t, none⟩) h2).trans (h3 t ht)⟩
theorem Zq14.same {w w' : World} {lb k : Nat} {A : Option Addr} {zs : List Int} (h : Zq14 w lb A zs) (hs : Same (vkeep14 lb k) w w') : Zq14 w' lb A zs := by
  rcases h with h | ⟨o, h1, h2, h3⟩
  · exact .inl h
  · exact .inr ⟨o, h1, Nat.lt_of_lt_of_le h2 hs.size, fun t ht => hs.cell _ _ rfl (h3 t ht)⟩
set_option maxHeartbeats 2000000 in
theorem goes14 (F : Fence) (n : Nat) (hf : F.fn 118) (hro : F.round = none) (hn : 1 ≤ n) (Bs lb N c : Nat) (A : Option Addr) (zs : List Int) (w : World) (hl : zs.length = N) (hi : Zq14 w lb A zs) (hN : N ≤ 1000000)
    (hb : w.cell? ⟨Bs, 0, none⟩ = some (.slice A N c)) :
    Goes F n Tryz.prog 118 #[.pointer (some ⟨Bs, 0, none⟩)] (venc14 zs) (vkeep14 lb) N w := fun l J Jx W hW _ _ hY h0 => by
  have hBs := World.block_lt_of_cell? w _ hb
  have hb1 := (hW.cell hBs).trans hb
  have HZ0 := Lib.hid (hi.below hW)
  have HL := Lib.hid hl
  clear hb hi hl
  refine callsIn_of_wp Tryz.func118 rfl hf ?_ hro
  simp only [Tryz.ntmps118, List.size_toArray, List.length_cons, List.length_nil, Nat.reduceAdd, Nat.reduceSub, Array.replicate_succ, Array.replicate_zero, List.push_toArray, List.append_toArray, List.nil_append, List.cons_append]
  gi_wp2
  clear hb1
  gi_loopw [7] (fun i wr => ∃ m : Nat, i = .int .i64 (m : Int) ∧ m ≤ N ∧ J m wr ∧ Hid (Zq14 wr lb A zs)) (fun i _ => N - (intOf i).toNat)
  case atStart => exact ⟨0, rfl, by omega, h0, HZ0⟩
  case round =>
    obtain ⟨m, rfl, hm, hJ, HZ⟩ := hrel
    by_cases hpos : m < N
    · have hz := HZ.out
      have hne : ¬ zs = [] := by
        intro h
        have := HL.out
        rw [h] at this
        simp at this
        omega
      obtain ⟨o, hA, hlb, hcs⟩ := hz.resolve_left hne
      subst hA
      have hcx := hcs m (by rw [HL.out]; exact hpos)
      have hq0 : (0 : Int) ≤ (m : Int) := by omega
      have hq1 : (m : Int) < (N : Int) := by omega
      obtain ⟨fn, tmps, assign, body, hy, hR⟩ := hY m wr (by omega) hJ
      simp only [venc14] at hy
      obtain ⟨x, hx⟩ : ∃ x, gt14 zs m = x := ⟨_, rfl⟩
      rw [hx] at hy hcx
      clear hz hne hcs hx
      gi_wp2
      refine hR.mono ?_
      rintro e W3 (⟨rfl, hJ3, hk3⟩ | ⟨rfl, hJx3⟩)
      · have HZ3 := Lib.hid (HZ.out.same hk3)
        have HJ := Lib.hid hJ3
        clear hk3 hJ3 hJ
        gi_wp2
        go_roundw
        case rel => exact ⟨m + 1, by go_num, by omega, HJ.out, HZ3⟩
        case measure => simp [intOf]; omega
      · gi_wp2
        refine bodyPost_ret (results_none rfl _ _ _) rfl ?_
        exact ⟨⟨_, rfl⟩, .inr ⟨m, by omega, hJx3⟩⟩
    · obtain rfl : m = N := by omega
      have hq1 : ¬ (m : Int) < (m : Int) := by omega
      have HJ : Hid (J m wr) := Lib.hid hJ
      clear hJ
      gi_wp2
      go_end0
      exact ⟨⟨_, rfl⟩, .inl HJ.out⟩
/-- A list that one makes: its variable at block O, the elements so far. -/
structure RowZ (w : World) (O B : Nat) (xs : List Int) (W : World) : Prop where
  below : Below w.heap.size w W
  bsz : B ≤ W.heap.size
  row : ∃ A c, Blk W O 26 #[.slice A xs.length c] ∧ W.ownsRow B 3 1 (.slice A xs.length c) xs.length (fl14 clI xs)
theorem RowZ.kept {w : World} {O B : Nat} {xs : List Int} {X Y : World} {row : Option Nat} (h : RowZ w O B xs X) (hg : X.grownBy Y row) {C : Nat} (hC : w.heap.size ≤ C)
    (hr : ∀ r, row = some r → C ≤ r ∧ ∃ o : Obj, X.heap[r]? = some o ∧ o.isCells = false) : RowZ w O B xs Y := by
  obtain ⟨A, c, h1, h2⟩ := h.row
  exact ⟨h.below.grown hg h.below.size (fun r e => by have := (hr r e).1; omega), Nat.le_trans h.bsz hg.size, A, c, blk11_kept h1 hg (fun r e => (hr r e).2), own11_kept h2 hg (fun r e => (hr r e).2)⟩
theorem RowZ.next {w : World} {O B k : Nat} {xs : List Int} {x : Int} {A5 : Option Addr} {c5 : Nat} {X Y : World} {A6 : Option Addr} {c6 : Nat} (h : RowZ w O B xs X) (hO : O < B) (hw : w.heap.size ≤ O) (hx : xs.length = k)
    (hb : Blk X O 26 #[.slice A5 k c5]) (hown : X.ownsRow B 3 1 (.slice A5 k c5) k (fl14 clI xs))
    (hg : (X.alloc (.cells #[.int .i64 x] 3)).grownBy Y (Value.slice A5 k c5).ownBlock) (h6 : Y.ownsRow B 3 1 (.slice A6 (k + 1) c6) (k + 1) (fl14 clI xs ++ [.int .i64 x])) :
    RowZ w O B (xs ++ [x]) (Y.setCell ⟨O, 0, none⟩ (.slice A6 (k + 1) c6)) ∧ Blk Y O 26 #[.slice A5 k c5] ∧ KeepsOthers X Y ∧ Below B X Y := by
  have hOA := own7_keep hown (b1' X (.cells #[.int .i64 x] 3))
  have hsz := hg.size
  rw [World.size_alloc] at hsz
  have hbY := (hb.alloc (.cells #[.int .i64 x] 3)).grown hg (fun e => own11_base hOA hO e.symm)
  have hX := h.below
  have hBX := h.bsz
  have hxy : Below B X Y := ((b1' X _).mono hBX).grown hg (by simp; omega) (fun r hr => (World.ownsRow.lt hOA r hr).1)
  have hz : (Y.setCell ⟨O, 0, none⟩ (.slice A6 (k + 1) c6)).heap.size = Y.heap.size := by simp [World.setCell]
  refine ⟨⟨(hX.trans (hxy.mono (by omega))).setCell hw _, by rw [hz]; omega, A6, c6, ?_, ?_⟩, hbY, (ko11_below (b1' X _)).trans (ko11_owned hOA hg), hxy⟩
  · have h1 := hbY.set_ 0 (.slice A6 (k + 1) c6)
    rw [List.length_append, hx]
    exact h1
  · rw [List.length_append, hx, fl14_append]
    exact own7_far h6 (grownBy_setCell' Y O _) (own11_base h6 hO)
/-- What Collect says. -/
def RetZ (w : World) (xs : List Int) (e : Ending) (w' : World) : Prop := ∃ A c, e = .returned (.slice A xs.length c) ∧ w'.ownsRow w.heap.size 3 1 (.slice A xs.length c) xs.length (fl14 clI xs) ∧ Below w.heap.size w w'
set_option maxHeartbeats 4000000 in
theorem appendSeq14 (Bs lb N c : Nat) (A : Option Addr) (zs : List Int) (w : World) (hl : zs.length = N) (hi : Zq14 w lb A zs) (hlb : lb < w.heap.size) (hN : N ≤ 100000) (hb : w.cell? ⟨Bs, 0, none⟩ = some (.slice A N c)) :
    Calls Tryz.prog 127 #[.slice none 0 0, .func (.func 118) #[] #[.pointer (some ⟨Bs, 0, none⟩)]] w (RetZ w zs) := by
  have HP : Hid (RetZ w zs = fun e w' => ∃ A c, e = .returned (.slice A N c) ∧ w'.ownsRow w.heap.size 3 1 (.slice A N c) N (fl14 clI zs) ∧ Below w.heap.size w w') := Lib.hid (by rw [← hl]; rfl)
  have HL := Lib.hid hl
  have hb0 := b1' w (.cells #[.slice none 0 0] 26)
  have f3 := Blk.new w 26 #[.slice none 0 0]
  have hsz0 : (w.alloc (.cells #[.slice none 0 0] 26)).heap.size = w.heap.size + 1 := by simp
  have hBs := World.block_lt_of_cell? w _ hb
  have f2 := (hb0.cell (p := ⟨Bs, 0, none⟩) hBs).trans hb
  have hi0 := hi.below hb0
  obtain ⟨W0, hW0⟩ : ∃ W, w.alloc (.cells #[.slice none 0 0] 26) = W := ⟨_, rfl⟩
  rw [hW0] at hb0 f3 hsz0 f2 hi0
  have hgo := goes14 Fence.wide 4 trivial rfl (by omega) Bs lb N c A zs W0 hl hi0 (by omega) f2
  have HI0 : Hid (RowZ w w.heap.size (w.heap.size + 1) (zs.take 0) W0) := Lib.hid ⟨hb0, by omega, none, 0, f3, World.ownsRow_nil _ _ _ _⟩
  have HSZ := Lib.hid hsz0
  clear f2 f3 hb0 hb hi hi0 hBs hl hsz0
  refine calls_of_leave Tryz.func127 rfl ?_
  simp only [Tryz.ntmps127, List.size_toArray, List.length_cons, List.length_nil, Nat.reduceAdd, Nat.reduceSub, Array.replicate_succ, Array.replicate_zero, List.push_toArray, List.append_toArray, List.nil_append, List.cons_append]
  go_wp2_with fail
  refine (wpIn_wide (n := 5)).1 ?_
  refine wpIn_rangeFunc_goes rfl (by omega) (gf := 118) (lb := #[.pointer (some ⟨Bs, 0, none⟩)]) rfl trivial (enters_of Tryz.func118 (by kernel_rfl) rfl)
    hgo (fun k p hp => by have h := HSZ.out; have hp' : p.block = lb := hp; omega) (Below.refl _ _) (fun _ => rfl)
    (fun k W => RowZ w w.heap.size (w.heap.size + 1) (zs.take k) W)
    (fun c k W => False)
    (fun s X Y row hs hg hr => hs.kept hg (by have := HSZ.out; omega) hr)
    (fun c s X Y row hs hg hr => hs.elim)
    HI0.out ?round ?done ?stop
  case round =>
    intro l k W hk _
    simp only [venc14]
    gi_wp2
    refine ⟨trivial, ?_⟩
    intro Wb hm
    obtain ⟨A5, c5, hb5, hown5⟩ := hm.row
    have hlm : (zs.take k).length = k := by rw [List.length_take, HL.out]; omega
    rw [hlm] at hb5 hown5
    have c1 := hb5.cell 0
    have f1 := hb5.frozen 0
    have HM := Lib.hid hm
    have HB5 := Lib.hid hb5
    have HO5 := Lib.hid hown5
    have HBS := hm.bsz
    have HLM := Lib.hid hlm
    have HTK : Hid (zs.take (k + 1) = zs.take k ++ [gt14 zs k]) := Lib.hid (take_gt14 (by rw [HL.out]; exact hk))
    obtain ⟨x, hx⟩ : ∃ x, gt14 zs k = x := ⟨_, rfl⟩
    rw [hx] at HTK ⊢
    clear hm hb5 hown5 hlm hx
    gi_wp2_with (gi_at_builtin; refine wpListIn_append_11 _ rfl (.tmp 8) (.tmp 10) 26 rfl (w.heap.size + 1) 3 Tryz.underlying26 (.int .i64 0) 8 info_int11 rfl (.slice A5 k c5) k _ rfl (own7_keep HO5.out (b1' _ _)) _ (.int .i64 x) rfl ((Blk.new _ _ _).cell 0) rfl (by omega) (by omega) (by simp; omega) ?_)
    intro A6 c6 W6 hc6 h6 hg6
    obtain ⟨hn1, hn2, hn3, hn4⟩ := HM.out.next (by omega) (by omega) HLM.out HB5.out HO5.out hg6 h6.out
    have c6' := hn2.cell 0
    have f6' := hn2.frozen 0
    have HN1 := Lib.hid hn1
    have HN3 := Lib.hid hn3
    have HSM : Hid (Same (vkeep14 lb k) Wb W6) := Lib.hid (Same.of_below hn4 (fun p hp => by have hp' : p.block = lb := hp; omega))
    clear hn1 hn2 hn3 hn4 h6 hg6
    gi_wp2_with fail
    refine ⟨(HN3.out.trans (KeepsOthers.setCell _ _ _)).from _, HSM.out.trans (Same.setCell (fun p hp e => ?_) _), ?_⟩
    · have hp' : p.block = lb := hp
      simp only at e
      omega
    · show RowZ w _ _ (zs.take (k + 1)) _
      rw [HTK.out]
      exact HN1.out
  case done =>
    rintro D W hD hm hK
    obtain ⟨A5, c5, hb5, hown5⟩ := hm.row
    have hlm : (zs.take N).length = N := by rw [List.length_take, HL.out]; omega
    have htk : zs.take N = zs := by rw [← HL.out, List.take_length]
    rw [hlm, htk] at hown5
    rw [hlm] at hb5
    have c1 := hb5.cell 0
    have HB := Lib.hid (mark_below hm.below hK (by have := HSZ.out; omega))
    have HO := Lib.hid (own11_kept hown5 (grownBy_putObj' _ D (.deferred none)) (fun r e => by cases e; exact ⟨_, hK, rfl⟩))
    have HK := Lib.hid hK
    clear hm hK hb5 hown5 hlm htk
    go_wp2_with fail
    rw [HP.out]
    exact leave_mark (v := .slice A5 N c5) HK.out (by simp [results, Tryz.results127, go_sem]) ⟨A5, c5, rfl, own7_base HO.out (by omega), HB.out⟩
  case stop =>
    rintro D c k W hD hk h hK
    exact h.elim
end Go.Proofs.YtfoellhoaflofaaGreat
