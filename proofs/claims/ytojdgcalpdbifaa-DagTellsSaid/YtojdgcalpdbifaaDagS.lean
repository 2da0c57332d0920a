/-
  Arrows: the document's Order.
-/
import Derived.Test.YtojdgcalpdbifaaDagR
namespace Go.Proofs.Ytojdgcalpdbifaa
open Go.RowKit
set_option maxRecDepth 100000

/-- Is j told? -/
def tb13 (os : List Nat) (j : Nat) : Bool := os.contains j
theorem tb13_yes {os : List Nat} {j : Nat} : tb13 os j = true ↔ j ∈ os := by simp [tb13]
theorem tb13_no {os : List Nat} {j : Nat} : tb13 os j = false ↔ j ∉ os := by
  rw [← tb13_yes]
  cases tb13 os j <;> simp
theorem tb13_next (os : List Nat) (i : Nat) : upd (tb13 os) i true = tb13 (os ++ [i]) := by
  funext j
  by_cases h : j = i
  · subst h
    rw [upd_at]
    exact (tb13_yes.2 (by simp)).symm
  · rw [upd_far _ _ h, Bool.eq_iff_iff, tb13_yes, tb13_yes, List.mem_append, List.mem_singleton]
    exact ⟨.inl, fun e => e.resolve_right h⟩
/-- order's own memory: marks at block g, the list so far. -/
structure Ro13 (w : World) (n : Nat) (tl : List Nat) (A : Option Addr) (k c : Nat) (W : World) : Prop where
  below : Below w.heap.size w W
  marks : Bb13 W w.heap.size n (tb13 tl)
  len : tl.length = k
  row : W.ownsRow w.heap.size 3 1 (.slice A k c) k (ints tl)

/-- What is known of i behind the first p arrows. -/
def Fp13 (l : List (Int × Int)) (n : Nat) (tl : List Nat) (i p : Nat) : Prop := i ∉ tl ∧ ∀ q, q < p → ∀ x : Nat, arr l q = ((x : Int), (i : Int)) → x < n → x ∈ tl
theorem Fp13.end_ {l : List (Int × Int)} {n i : Nat} {tl : List Nat} (h : Fp13 l n tl i l.length) (hi : i < n) : Fre13 (cut13 n l) n tl i :=
  ⟨hi, h.1, fun f hf => by
    obtain ⟨q, hq, he⟩ := arr_mem hf
    exact h.2 q hq f he (cut13_lt hf).1⟩

set_option maxHeartbeats 8000000 in
theorem rorder13_any (n : Nat) (Ad : Option Addr) (l : List (Int × Int)) (m c : Nat) (os : List Nat) (w : World) (hl : l.length = m) (hr : Aq w w.heap.size Ad l) (hm : m ≤ 1000000) (hn : n ≤ 100000) (hd : Done13 (cut13 n l) n os) (hf : os.length = n) :
    Calls Try.prog 16 #[.int .i64 (n : Int), .slice Ad m c] w (RetI w os) := by
  have HP : Hid (RetI w os = fun e w' => ∃ A c, e = .returned (.slice A os.length c) ∧ w'.ownsRow w.heap.size 3 1 (.slice A os.length c) os.length (ints os) ∧ Below w.heap.size w w') := Lib.hid rfl
  have HR := Lib.hid hr
  have HL := Lib.hid hl
  have HD := Lib.hid hd
  have HF := Lib.hid hf
  have hmk := make_bools13 n (by omega)
  have HM0 : Hid (Ro13 w n [] none 0 0 (w.alloc (.cells (madeCells #[.bool false] n) 4))) := Lib.hid ⟨b1' w _, made_b13 w n, rfl, World.ownsRow_nil _ _ _ _⟩
  clear hr hl hd hf
  go_enter Try.func16, Try.ntmps16
  go_wp2_with fail
  clear hmk
  go_loopw [6] (fun v wr => ∃ (tl : List Nat) (A : Option Addr) (k c : Nat), v = .slice A k c ∧ k ≤ n ∧ Hid (Ro13 w n tl A k c wr) ∧ Hid (Told13 (cut13 n l) n tl)) (fun v _ => n - lenOf13 v)
  case atStart => exact ⟨[], none, 0, 0, rfl, by omega, HM0, Lib.hid .nil⟩
  case round =>
    clear HM0
    obtain ⟨tl, A, k, c2, rfl, hk, HM, HT⟩ := hrel
    by_cases hkn : k < n
    · have hklt : (k : Int) < (n : Int) := by omega
      obtain ⟨i0, hi0, hi1⟩ : ∃ i, Fre13 (cut13 n l) n tl i ∧ ∀ j, j < i → ¬ Fre13 (cut13 n l) n tl j := least13_ex (Classical.byContradiction (fun h => by
        have h1 : Done13 (cut13 n l) n tl := ⟨HT.out, fun i hi => h ⟨i, hi⟩⟩
        have h2 := congrArg List.length (h1.same HD.out)
        rw [HM.out.len, HF.out] at h2
        omega))
      have hi0n := hi0.1
      have HI0 := Lib.hid hi0
      have HI1 := Lib.hid hi1
      clear hi0 hi1
      go_wp2_with fail
      go_loopw [6, 7] (fun ov iv wi => ∃ i : Nat, ov = .slice A k c2 ∧ iv = .int .i64 (i : Int) ∧ i ≤ i0 ∧ wi = wr) (fun _ iv _ => n - (intOf iv).toNat)
      case atStart => exact ⟨0, rfl, rfl, by omega, rfl⟩
      case round =>
        obtain ⟨i, rfl, rfl, hi, hwi⟩ := hrel
        subst hwi
        have hin : i < n := by omega
        have ii0 : (0 : Int) ≤ (i : Int) := by omega
        have ii1 : (i : Int) < (n : Int) := by omega
        obtain ⟨mi, mif⟩ := HM.out.marks.cells hin
        obtain ⟨b, hb⟩ : ∃ b, tb13 tl i = b := ⟨_, rfl⟩
        rw [hb] at mi
        have HF0 : Hid (((!b) = true → Fp13 l n tl i 0) ∧ ((!b) = false → ¬ Fre13 (cut13 n l) n tl i)) := Lib.hid (by
          constructor
          · intro h
            have h1 : b = false := by simpa using h
            subst h1
            exact ⟨tb13_no.1 hb, fun q hq => by omega⟩
          · intro h
            have h1 : b = true := by simpa using h
            subst h1
            exact fun e => e.2.1 (tb13_yes.1 hb))
        clear hb
        go_wp2_with fail
        go_loopw [8, 9] (fun v pv wi => ∃ (p : Nat) (fr : Bool), v = .bool fr ∧ pv = .int .i64 (p : Int) ∧ p ≤ m ∧ Hid ((fr = true → Fp13 l n tl i p) ∧ (fr = false → ¬ Fre13 (cut13 n l) n tl i)) ∧ wi = wr) (fun _ pv _ => m - (intOf pv).toNat)
        case atStart => exact ⟨0, !b, rfl, rfl, by omega, HF0, rfl⟩
        case round =>
          clear HF0
          obtain ⟨p, fr, rfl, rfl, hp, HFR, hwi⟩ := hrel
          subst hwi
          by_cases hgo : p < m ∧ fr = true
          · obtain ⟨hpm, rfl⟩ := hgo
            have hpl : p < l.length := by have := HL.out; omega
            obtain ⟨ba, o, hA, _, c0, c1⟩ := Aq.at_ (Rv.below HR.out HM.out.below (Nat.le_refl _)) hpl
            subst hA
            obtain ⟨fi, hfi⟩ : ∃ x, (arr l p).1 = x := ⟨_, rfl⟩
            obtain ⟨ti, hti⟩ : ∃ x, (arr l p).2 = x := ⟨_, rfl⟩
            rw [hfi] at c0
            rw [hti] at c1
            have HAR : Hid (arr l p = (fi, ti)) := Lib.hid (by rw [← hfi, ← hti])
            have p0 : (0 : Int) ≤ (p : Int) := by omega
            have p1 : (p : Int) < (m : Int) := by omega
            have HFP := Lib.hid (HFR.out.1 rfl)
            have hnext : (∀ x : Nat, fi = (x : Int) → ti = (i : Int) → x < n → x ∈ tl) → Fp13 l n tl i (p + 1) := fun h => ⟨HFP.out.1, fun q hq => by
              rcases (show q < p ∨ q = p by omega) with h1 | rfl
              · exact HFP.out.2 q h1
              · intro x he hx
                rw [HAR.out] at he
                injection he with h2 h3
                exact h x h2 h3 hx⟩
            have HNX := Lib.hid hnext
            clear hfi hti hnext HFR
            by_cases hti : ti = (i : Int)
            · by_cases hf0 : 0 ≤ fi
              · by_cases hfn : fi < (n : Int)
                · obtain ⟨f, rfl⟩ : ∃ f : Nat, fi = (f : Int) := ⟨fi.toNat, by omega⟩
                  have hfN : f < n := by omega
                  obtain ⟨mf, mff⟩ := HM.out.marks.cells hfN
                  subst hti
                  cases hmf : tb13 tl f with
                  | true =>
                    rw [hmf] at mf
                    have HN := Lib.hid (HNX.out (fun x h1 _ _ => by
                      obtain rfl : f = x := by omega
                      exact tb13_yes.1 hmf))
                    clear hmf mff
                    go_wp2_with fail
                    go_roundw
                    case rel => exact ⟨p + 1, true, rfl, by go_num, by omega, Lib.hid ⟨fun _ => HN.out, fun h => (by cases h)⟩, by first | trivial | rfl⟩
                    case measure => simp [intOf]; omega
                  | false =>
                    rw [hmf] at mf
                    have HN : Hid (¬ Fre13 (cut13 n l) n tl i) := Lib.hid (fun e => (tb13_no.1 hmf) (e.2.2 f (arr_in hpl HAR.out hfN hin)))
                    clear hmf mff
                    go_wp2_with fail
                    go_roundw
                    case rel => exact ⟨p + 1, false, rfl, by go_num, by omega, Lib.hid ⟨fun h => (by cases h), fun _ => HN.out⟩, by first | trivial | rfl⟩
                    case measure => simp [intOf]; omega
                · have HN := Lib.hid (HNX.out (fun x h1 _ h3 => by omega))
                  have hfn2 : decide (fi < (n : Int)) = false := decide_eq_false hfn
                  subst hti
                  go_wp2_with fail
                  go_roundw
                  case rel => exact ⟨p + 1, true, rfl, by go_num, by omega, Lib.hid ⟨fun _ => HN.out, fun h => (by cases h)⟩, by first | trivial | rfl⟩
                  case measure => simp [intOf]; omega
              · have HN := Lib.hid (HNX.out (fun x h1 _ h3 => by omega))
                subst hti
                go_wp2_with fail
                go_roundw
                case rel => exact ⟨p + 1, true, rfl, by go_num, by omega, Lib.hid ⟨fun _ => HN.out, fun h => (by cases h)⟩, by first | trivial | rfl⟩
                case measure => simp [intOf]; omega
            · have HN := Lib.hid (HNX.out (fun x _ h2 _ => absurd h2 hti))
              have hti2 : (ti == (i : Int)) = false := by simp [hti]
              go_wp2_with fail
              go_roundw
              case rel => exact ⟨p + 1, true, rfl, by go_num, by omega, Lib.hid ⟨fun _ => HN.out, fun h => (by cases h)⟩, by first | trivial | rfl⟩
              case measure => simp [intOf]; omega
          · cases fr with
            | false =>
              have HNF := Lib.hid (HFR.out.2 rfl)
              have hlt : i < i0 := by
                rcases Nat.lt_or_ge i i0 with h | h
                · exact h
                · obtain rfl : i = i0 := by omega
                  exact absurd HI0.out HNF.out
              clear hgo
              rcases Nat.lt_or_ge p m with hpm | hpm
              · have p1 : (p : Int) < (m : Int) := by omega
                go_wp2_with fail
                go_roundw
                case rel => exact ⟨i + 1, rfl, by go_num, by omega, by first | trivial | rfl⟩
                case measure => simp [intOf]; omega
              · have p1 : ¬ (p : Int) < (m : Int) := by omega
                go_wp2_with fail
                go_roundw
                case rel => exact ⟨i + 1, rfl, by go_num, by omega, by first | trivial | rfl⟩
                case measure => simp [intOf]; omega
            | true =>
              obtain rfl : p = m := by
                rcases Nat.lt_or_ge p m with h | h
                · exact absurd ⟨h, rfl⟩ hgo
                · omega
              have hfre : Fre13 (cut13 n l) n tl i := by
                have h1 := HFR.out.1 rfl
                rw [← HL.out] at h1
                exact h1.end_ hin
              obtain rfl : i = i0 := by
                rcases Nat.lt_or_ge i i0 with h | h
                · exact absurd hfre (HI1.out i h)
                · omega
              have HT2 := Lib.hid (Told13.next HT.out hfre HI1.out)
              have HB2 := Lib.hid (HM.out.marks.put hin true)
              have hrw : (wr.setCell ⟨w.heap.size, i, none⟩ (.bool true)).ownsRow w.heap.size 3 1 (.slice A k c2) k (ints tl) := ownsRow_setCell_other HM.out.row (by
                obtain ⟨es, h1, _⟩ := HM.out.marks
                exact own7_ne HM.out.row h1 (by decide)) _
              have HB3 := Lib.hid (HM.out.below.setCell (p := ⟨w.heap.size, i, none⟩) (Nat.le_refl _) (.bool true))
              obtain ⟨w5, hw5⟩ : ∃ W, wr.setCell ⟨w.heap.size, i, none⟩ (.bool true) = W := ⟨_, rfl⟩
              rw [hw5] at HB2 HB3 hrw
              rw [tb13_next] at HB2
              have HRW := Lib.hid hrw
              have hs5 := HB3.out.size
              have p1 : ¬ (p : Int) < (p : Int) := by omega
              clear hrw hfre hgo HFR
              go_wp2_with (at_builtin; go_loud (refine wpList_append_rv _ rfl (.tmp 74) (.tmp 76) 29 rfl w.heap.size 3 (.int .i64 0) 8 Try.underlying29 info_int11 rfl (by omega) (.slice A k c2) k (ints tl) rfl (own7_keep HRW.out (b1' w5 (.cells #[.int .i64 (i : Int)] 3))) (w5.heap.size + 1) (some ⟨w5.heap.size, 0, none⟩) 1 (ints [i]) _ rfl rfl (rv12_one w5 i 3) (ints_one [i]) (by omega) (by simp; omega) ?_); intro A' c' w6 hc6 hown6 hg6 hbl6; have HB6 : Hid (Below w.heap.size w w6) := Lib.hid ((HB3.out.trans ((b1' w5 _).mono hs5)).grown hg6 (by simp; omega) (fun r hr => (World.ownsRow.lt (own7_keep HRW.out (b1' w5 (.cells #[.int .i64 (i : Int)] 3))) r hr).1)); have HM6 : Hid (Bb13 w6 w.heap.size n (tb13 (tl ++ [i]))) := Lib.hid (by obtain ⟨es, h1, h2⟩ := HB2.out; exact ⟨es, (h1.alloc _).grown hg6 (fun e => own7_ne (own7_keep HRW.out (b1' w5 (.cells #[.int .i64 (i : Int)] 3))) (h1.alloc _) (by decide) e.symm), h2⟩); have HR6 : Hid (w6.ownsRow w.heap.size 3 1 (.slice A' (k + 1) c') (k + 1) (ints (tl ++ [i]))) := Lib.hid (by rw [ints_append]; exact hown6.out); clear hown6 hg6 hbl6)
              go_roundw
              case rel => exact ⟨tl ++ [i], A', k + 1, c', rfl, by omega, Lib.hid ⟨HB6.out, HM6.out, by rw [List.length_append, HM.out.len]; rfl, HR6.out⟩, HT2⟩
              case measure => simp [lenOf13]; omega
    · obtain rfl : k = n := by omega
      have htl : tl = os := by
        have h1 := HT.out.head HD.out
        have h2 := HM.out.len
        have h3 := HF.out
        rw [List.take_of_length_le (by omega)] at h1
        exact h1
      have HRW := Lib.hid HM.out.row
      rw [htl] at HRW
      have k1 : ¬ (k : Int) < (k : Int) := by omega
      clear htl
      go_wp2_with fail
      go_ret
      rw [HP.out]
      exact ⟨A, c2, by rw [HF.out]; rfl, by rw [HF.out]; exact HRW.out, HM.out.below⟩
end Go.Proofs.Ytojdgcalpdbifaa
