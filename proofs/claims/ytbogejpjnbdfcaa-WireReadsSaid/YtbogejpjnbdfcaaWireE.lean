/-
  Numbers and texts as bytes: the program's reader: ints and texts.
-/
import Derived.Test.YtbogejpjnbdfcaaWireD
import Derived.Laws.IdiomStrings
namespace Go.Proofs.Ytbogejpjnbdfcaa
open Go.RowKit
set_option maxRecDepth 100000

theorem numS_le (top : Nat) (xs : List UInt8) : (numS top xs).1 ≤ top := by
  unfold numS
  by_cases h : (fnum 0 0 xs).2.2 = 0
  · rw [if_pos h]
    by_cases h2 : top < (fnum 0 0 xs).1
    · rw [if_pos h2]; simp
    · rw [if_neg h2]; simp only; omega
  · rw [if_neg h]; simp
theorem numT_le (top : Nat) (st : List UInt8 × Int) : (numT top st).1 ≤ top := by
  unfold numT
  by_cases h : st.2 = 0
  · rw [if_pos h]; exact numS_le top st.1
  · rw [if_neg h]; simp

set_option maxHeartbeats 1000000 in
theorem int_any (g : Nat) (xs : List UInt8) (e top : Int) (w : World) (h : WR w g xs e) (ht : top ≤ 9223372036854775807) : Calls Try.prog 16 #[.pointer (some ⟨g, 0, none⟩), .int .i64 top] w fun en w' =>
    en = .returned (.int .i64 ((numT top.toNat (xs, e)).1 : Int)) ∧ WR w' g (numT top.toNat (xs, e)).2.1 (numT top.toNat (xs, e)).2.2 ∧ w.grownBy w' (some g) := by
  obtain ⟨m, hm⟩ : ∃ m, top.toNat = m := ⟨_, rfl⟩
  have hm1 : m ≤ 9223372036854775807 := by omega
  have HC := Lib.hid (num_any g xs e m w h (by omega))
  have hle := numT_le m (xs, e)
  rw [hm]
  obtain ⟨R, hR⟩ : ∃ R, numT m (xs, e) = R := ⟨_, rfl⟩
  rw [hR] at HC hle ⊢
  obtain ⟨v, xs', e'⟩ := R
  simp only at hle
  have HM := Lib.hid hm
  clear hR h hm
  by_cases h0 : top < 0
  · obtain rfl : m = 0 := by have := HM.out; omega
    have HC0 : Hid (Calls Try.prog 14 #[.pointer (some ⟨g, 0, none⟩), .int .u64 0] w fun en w' => en = .returned (.int .u64 (v : Int)) ∧ WR w' g xs' e' ∧ w.grownBy w' (some g)) := HC
    clear HC
    go_enter Try.func16, Try.ntmps16
    go_wp2_with fail
    all_goals
      first
        | omega
        | (refine HC0.out.mono ?_
           rintro en w1 ⟨rfl, hw1, hg1⟩
           have HW := Lib.hid hw1
           clear hw1
           go_wp2_with fail
           go_ret
           exact ⟨rfl, HW.out, hg1⟩)
  · obtain rfl : top = (m : Int) := by have := HM.out; omega
    go_enter Try.func16, Try.ntmps16
    go_wp2_with fail
    all_goals
      first
        | omega
        | (refine HC.out.mono ?_
           rintro en w1 ⟨rfl, hw1, hg1⟩
           have HW := Lib.hid hw1
           clear hw1
           go_wp2_with fail
           go_ret
           exact ⟨rfl, HW.out, hg1⟩)

/-- A slice of bytes as a string. -/
theorem conv_bytes (w : World) (B : Nat) (A : Option Addr) (xs : List UInt8) (n c : Nat) (h : Rb w B A xs) (hl : xs.length = n) : (convert 22 9 (.slice A n c)).run Try.prog w = .ok (.string ⟨xs.toArray⟩) w := by
  subst hl
  cases xs with
  | nil => 
    rw [List.length_nil, run_convert_bytes_string w 22 9 5 A 0 c Try.underlying22 Try.underlying5 Try.underlying9]
    cases A <;> first | rfl | simp [Conv.bytesToString]
  | cons y r =>
    obtain ⟨b, o, rfl, _, h2⟩ := h (by simp)
    refine run_convert_bytes_back w 22 9 5 ⟨b, o, none⟩ c (y :: r) Try.underlying22 Try.underlying5 Try.underlying9 (fun j hj => ?_)
    have := h2 j hj
    rw [at8_in hj] at this
    rw [← this]
    unfold Addr.add
    split
    · next h0 => subst h0; rfl
    · rfl

theorem Rb.drop_ {w : World} {B : Nat} {A : Option Addr} {xs : List UInt8} (h : Rb w B A xs) (k : Nat) : Rb w B (A.map (fun x => x.add k)) (xs.drop k) := by
  intro hx
  have hne : xs ≠ [] := by rintro rfl; simp at hx
  obtain ⟨b, o, rfl, h2, h3⟩ := h hne
  obtain ⟨b', o', h4, h5⟩ := (Rb.drop (b := b) (o := o) (fun _ => ⟨b, o, rfl, h2, h3⟩) k) hx
  refine ⟨b', o', ?_, h5⟩
  rw [← h4]
  simp only [Option.map_some, Addr.add]
  split
  · next h0 => subst h0; rfl
  · rfl
/-- Text: what it answers, and the reader's state behind it. -/
def textT (top : Nat) (st : List UInt8 × Int) : List UInt8 × (List UInt8 × Int) :=
  if st.2 = 0 then (if (numT top st).2.2 = 0 then (if (numT top st).2.1.length < (numT top st).1 then ([], (st.1, 4)) else ((numT top st).2.1.take (numT top st).1, ((numT top st).2.1.drop (numT top st).1, 0))) else ([], (numT top st).2)) else ([], st)
theorem numT_bad {top : Nat} {xs : List UInt8} (h : (numT top (xs, 0)).2.2 ≠ 0) : (numT top (xs, 0)).1 = 0 ∧ (numT top (xs, 0)).2.1 = xs := by
  unfold numT at h ⊢
  rw [if_pos rfl] at h ⊢
  simp only at h ⊢
  unfold numS at h ⊢
  by_cases h1 : (fnum 0 0 xs).2.2 = 0
  · rw [if_pos h1] at h ⊢
    by_cases h2 : top < (fnum 0 0 xs).1
    · rw [if_pos h2]; simp
    · rw [if_neg h2] at h; simp at h
  · rw [if_neg h1]; simp

set_option maxHeartbeats 1000000 in
theorem textr_any (g : Nat) (xs : List UInt8) (e top : Int) (w : World) (h : WR w g xs e) (ht : top ≤ 9223372036854775807) : Calls Try.prog 18 #[.pointer (some ⟨g, 0, none⟩), .int .i64 top] w fun en w' =>
    en = .returned (.string ⟨(textT top.toNat (xs, e)).1.toArray⟩) ∧ WR w' g (textT top.toNat (xs, e)).2.1 (textT top.toNat (xs, e)).2.2 ∧ w.grownBy w' (some g) := by
  have HE := Lib.hid (err_any g xs e w h)
  by_cases h0 : e = 0
  · subst h0
    have HI := Lib.hid (int_any g xs 0 top w h ht)
    have hle := numT_le top.toNat (xs, 0)
    have HT : Hid (textT top.toNat (xs, 0) = _) := Lib.hid (by unfold textT; rw [if_pos rfl])
    have hbad := @numT_bad top.toNat xs
    obtain ⟨R, hR⟩ : ∃ R, numT top.toNat (xs, 0) = R := ⟨_, rfl⟩
    rw [hR] at HI hle HT hbad
    obtain ⟨v, xs', e'⟩ := R
    simp only at hle hbad
    have hv : v ≤ 9223372036854775807 := by omega
    obtain ⟨T, hT⟩ : ∃ T, textT top.toNat (xs, 0) = T := ⟨_, rfl⟩
    rw [hT] at HT ⊢
    clear hR hT hle
    obtain ⟨A, n, c, hb, hr, hl, hc, hn⟩ := h
    have c0 := hb.cell 0
    have HR := Lib.hid hr
    have HL := Lib.hid hl
    have hgl := hb.lt
    clear hr hl hb
    go_enter Try.func18, Try.ntmps18
    go_wp2_with fail
    refine HE.out.mono ?_
    rintro en w1 ⟨rfl, rfl⟩
    go_wp2_with fail
    refine HI.out.mono ?_
    rintro en w2 ⟨rfl, hw2, hg2⟩
    have HLf := Lib.hid (left_any g xs' e' w2 hw2)
    have HE2 := Lib.hid (err_any g xs' e' w2 hw2)
    have HW2 := Lib.hid hw2
    clear hw2 c0
    go_wp2_with fail
    refine HLf.out.mono ?_
    rintro en w3 ⟨rfl, rfl⟩
    by_cases he : e' = 0
    · subst he
      by_cases hlt : xs'.length < v
      · have HTT : Hid (T = ([], (xs, 4))) := Lib.hid (by rw [HT.out, if_pos rfl, if_pos hlt])
        obtain ⟨A2, n2, c2, hb2, hr2, hl2, hc2, hn2⟩ := HW2.out
        have d0 := hb2.cell 0
        have f0 := hb2.frozen 0
        have HW4 : Hid (WR (w3.setCell ⟨g, 0, none⟩ (.slice A n c)) g xs 0) := Lib.hid ⟨A, n, c, hb2.set_ 0 _, (HR.out.grown hg2 (by omega) (fun k hk => by cases hk; omega)).setCell (Nat.le_refl _) _, HL.out, hc, hn⟩
        have HF4 := Lib.hid (fail_any g xs 0 4 _ HW4.out)
        clear hb2 hr2
        go_wp2_with fail
        refine HF4.out.mono ?_
        rintro en w5 ⟨rfl, hw5, hg5⟩
        have HE5 := Lib.hid (err_any g xs _ w5 hw5)
        have HW5 := Lib.hid hw5
        clear hw5
        go_wp2_with fail
        refine HE5.out.mono ?_
        rintro en w6 ⟨rfl, rfl⟩
        go_wp2_with fail
        go_ret
        rw [HTT.out]
        exact ⟨rfl, by simpa using HW5.out, (hg2.trans (grown_set w3 g 0 _)).trans hg5⟩
      · have HTT : Hid (T = (xs'.take v, (xs'.drop v, 0))) := Lib.hid (by rw [HT.out, if_pos rfl, if_neg hlt])
        have hlv : (v : Int) ≤ (xs'.length : Int) := by omega
        go_wp2_with fail
        refine HE2.out.mono ?_
        rintro en w6 ⟨rfl, rfl⟩
        obtain ⟨A2, n2, c2, hb2, hr2, hl2, hc2, hn2⟩ := HW2.out
        have d0 := hb2.cell 0
        have f0 := hb2.frozen 0
        have hk0 : (0 : Int) ≤ (v : Int) := by omega
        have hk1 : (v : Int) ≤ (n2 : Int) := by omega
        have hk2 : (v : Int) ≤ (c2 : Int) := by omega
        have hcv := conv_bytes w6 g A2 (xs'.take v) v c2 (hr2.take v) (by rw [List.length_take]; omega)
        have HB2 := Lib.hid hb2
        have HR2 := Lib.hid hr2
        clear hb2 hr2
        go_wp2_with fail
        · go_ret
          rw [HTT.out]
          have hx0 : xs'.drop v = [] := List.drop_eq_nil_of_le (by omega)
          rw [hx0]
          exact ⟨rfl, ⟨A2, n2 - v, 0, HB2.out.set_ 0 _, Rb.nil _ _ _, by simp; omega, by omega, by omega⟩, hg2.trans (grown_set w6 g 0 _)⟩
        · go_ret
          rw [HTT.out]
          exact ⟨rfl, ⟨_, n2 - v, c2 - v, HB2.out.set_ 0 _, (HR2.out.drop_ v).setCell (Nat.le_refl _) _, by rw [List.length_drop, hl2], by omega, by omega⟩, hg2.trans (grown_set w6 g 0 _)⟩
    · obtain ⟨rfl, rfl⟩ := hbad he
      have HTT : Hid (T = ([], (xs', e'))) := Lib.hid (by rw [HT.out, if_neg he])
      go_wp2_with fail
      refine HE2.out.mono ?_
      rintro en w6 ⟨rfl, rfl⟩
      go_wp2_with fail
      go_ret
      rw [HTT.out]
      exact ⟨rfl, HW2.out, hg2⟩
  · go_enter Try.func18, Try.ntmps18
    go_wp2_with fail
    refine HE.out.mono ?_
    rintro en w1 ⟨rfl, rfl⟩
    go_wp2_with fail
    go_ret
    have hN : textT top.toNat (xs, e) = ([], (xs, e)) := if_neg h0
    rw [hN]
    exact ⟨rfl, h, World.grownBy.refl _ _⟩
end Go.Proofs.Ytbogejpjnbdfcaa
