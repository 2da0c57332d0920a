/-
  Numbers and texts as bytes: the document's reader: numbers.
-/
import Derived.Test.YtbogejpjnbdfcaaWireF
namespace Go.Proofs.Ytbogejpjnbdfcaa
open Go.RowKit
set_option maxRecDepth 100000

theorem pow9 {k : Nat} (h : k ≤ 9) : 128 ^ k ≤ 9223372036854775808 := by
  have h2 : 128 ^ k ≤ 128 ^ 9 := Nat.pow_le_pow_right (by omega) h
  have h4 : (128 : Nat) ^ 9 = 9223372036854775808 := by decide
  omega
theorem num_fits {acc x k : Nat} (ha : acc < 128 ^ k) (hk : k ≤ 9) (h9 : k = 9 → x ≤ 1) : acc + x % 128 * 128 ^ k < 18446744073709551616 := by
  rcases Nat.lt_or_ge k 9 with h | h
  · have h1 := num_lt (x := x) ha
    have h2 := pow9 (show k + 1 ≤ 9 by omega)
    omega
  · obtain rfl : k = 9 := by omega
    have h3 : x % 128 * 128 ^ 9 ≤ 1 * 128 ^ 9 := Nat.mul_le_mul_right _ (by have := h9 rfl; omega)
    have h4 : (128 : Nat) ^ 9 = 9223372036854775808 := by decide
    omega

/-- What holds at each round's head. -/
def NumRel (w : World) (L h p : Nat) (full : List UInt8) (R : Nat × Nat × Nat) (k acc o1 : Nat) (wr : World) : Prop :=
  k ≤ 9 ∧ Hid (acc < 128 ^ k) ∧ Hid (o1 = 128 ^ k) ∧ Hid (fnum k acc ((full.drop p).drop k) = R) ∧ Hid (BR wr L h full (p + k) 0) ∧ w.grownBy wr (some h)

theorem BR.next {w : World} {L h : Nat} {full : List UInt8} {p : Nat} {e : Int} (k : BR w L h full p e) (hq : p + 1 ≤ full.length) : BR (w.setCell ⟨h, 1, none⟩ (.int .i64 ((p : Int) + 1))) L h full (p + 1) e := k.set (p + 1) hq

set_option maxHeartbeats 2000000 in
theorem num5_any (L h : Nat) (full : List UInt8) (p : Nat) (e : Int) (top : Nat) (w : World) (hb : BR w L h full p e) (ht : top < 18446744073709551616) : Calls Try.prog 15 #[.pointer (some ⟨h, 0, none⟩), .int .u64 (top : Int)] w fun en w' =>
    en = .returned (.int .u64 ((numT top (full.drop p, e)).1 : Int)) ∧ (∃ p', BR w' L h full p' (numT top (full.drop p, e)).2.2 ∧ full.drop p' = (numT top (full.drop p, e)).2.1) ∧ w.grownBy w' (some h) := by
  by_cases h0 : e = 0
  · subst h0
    have HN : Hid (numT top (full.drop p, 0) = _) := Lib.hid (by unfold numT; rw [if_pos rfl])
    obtain ⟨T, hT⟩ : ∃ T, numT top (full.drop p, 0) = T := ⟨_, rfl⟩
    rw [hT] at HN ⊢
    have HB0 := Lib.hid hb
    obtain ⟨A, n, c, h1, h2, h3, h4, h5, h6, h7⟩ := hb
    have c1 := h1.cell 1
    have c2 := h1.cell 2
    obtain ⟨R, hR⟩ : ∃ R, fnum 0 0 (full.drop p) = R := ⟨_, rfl⟩
    have HR := Lib.hid hR
    have HL := Lib.hid h4
    clear hR hT h1 h2 h3 h4
    go_enter Try.func15, Try.ntmps15
    go_wp2_with fail
    go_loopw [6, 7, 8] (fun y6 y7 y8 wr => ∃ k acc o1 : Nat, y8 = .int .i64 (k : Int) ∧ y6 = .int .u64 (acc : Int) ∧ y7 = .int .u64 (o1 : Int) ∧ NumRel w L h p full R k acc o1 wr) (fun _ _ y8 _ => 10 - (intOf y8).toNat)
    case atStart => exact ⟨0, 0, 1, rfl, rfl, rfl, by omega, Lib.hid (by simp), Lib.hid (by simp), Lib.hid (by simpa using HR.out), HB0, World.grownBy.refl _ _⟩
    case round =>
      obtain ⟨k, acc, o1, rfl, rfl, rfl, hk9, HA, HO, HF, HB, hg⟩ := hrel
      obtain ⟨q, hq⟩ : ∃ q, p + k = q := ⟨_, rfl⟩
      rw [hq] at HB
      obtain ⟨A1, n1, c1', b1, b2, b3, b4, b5, b6, b7⟩ := HB.out
      have d0 : wr.drew.cell? ⟨h, 0, none⟩ = some (.slice A1 n1 c1') := b1.cell 0
      have d1 : wr.drew.cell? ⟨h, 1, none⟩ = some (.int .i64 (q : Int)) := b1.cell 1
      have hlen : (full.drop p).length = n1 - p := by rw [List.length_drop, b4]
      have HLEN := Lib.hid hlen
      have HQ := Lib.hid hq
      have hpn : p ≤ full.length := by have := HL.out; omega
      have hgd : w.grownBy wr.drew (some h) := hg.trans (grown_drew _ _)
      have hBd := HB.out.drew
      have HBd := Lib.hid hBd
      have HG := Lib.hid hgd
      clear hlen hq hgd hBd
      by_cases hend : q = n1
      · have htst : ((q : Int) == (n1 : Int)) = true := by simp; omega
        have HTT : Hid (T = (0, (full.drop p, 4))) := Lib.hid (by rw [HN.out]; unfold numS; rw [HR.out, ← HF.out, fnum_out (by have := HLEN.out; have := HQ.out; omega)]; rfl)
        clear b1 b2 b3 b4 HF hend
        go_wp2_with fail
        go_region_held3 (fun w' => w'.cell? ⟨h, 0, none⟩ = some (.slice A1 n1 c1') ∧ w'.cell? ⟨h, 1, none⟩ = some (.int .i64 (q : Int)))
          (first | exact ⟨d0, d1⟩ | assumption)
          (fail)
        go_wp2_with fail
        refine (fail5_any L h full q p 0 4 wr.drew HBd.out hpn).mono ?_
        rintro en w2 ⟨rfl, hb2, hg2⟩
        have HB2 := Lib.hid hb2
        clear hb2
        go_wp2_with fail
        go_ret
        rw [HTT.out]
        exact ⟨rfl, ⟨p, HB2.out, rfl⟩, HG.out.trans hg2⟩
      · have htst : ((q : Int) == (n1 : Int)) = false := by simp; omega
        have hqn : q < n1 := by omega
        have hi0 : (0 : Int) ≤ (q : Int) := by omega
        have hi1 : (q : Int) < (n1 : Int) := by omega
        have hbd : k < (full.drop p).length := by have := HLEN.out; have := HQ.out; omega
        obtain ⟨b, o, rfl, b8⟩ := b2 (by rintro rfl; simp at b4; omega)
        have hcell := b8.2 q (by omega)
        obtain ⟨x, hx⟩ : ∃ x, at8 full q = x := ⟨_, rfl⟩
        have hlt := at8_lt full q
        rw [hx] at hcell hlt
        have hwx : IntKind.u64.wrap (x : Int) = (x : Int) := by rw [IntKind.wrap_u64]; omega
        have HX : Hid (at8 (full.drop p) k = x) := Lib.hid (by rw [at8_drop, HQ.out]; exact hx)
        have d2 : wr.drew.drew.cell? ⟨b, o + q, none⟩ = some (.int .u8 (x : Int)) := hcell
        have e0 : wr.drew.drew.cell? ⟨h, 0, none⟩ = some (.slice (some ⟨b, o, none⟩) n1 c1') := d0
        have e1 : wr.drew.drew.cell? ⟨h, 1, none⟩ = some (.int .i64 (q : Int)) := d1
        have e1f : wr.drew.drew.frozen? ⟨h, 1, none⟩ = false := b1.frozen 1
        have hBd := HBd.out.drew
        have hgd := HG.out.trans (grown_drew _ _)
        have HBd := Lib.hid hBd
        have HG := Lib.hid hgd
        clear b1 b2 b3 b4 b8 hx hcell hend hBd hgd
        go_wp2_with fail
        go_region_held3 (fun w' => w'.cell? ⟨h, 0, none⟩ = some (.slice (some ⟨b, o, none⟩) n1 c1') ∧ w'.cell? ⟨h, 1, none⟩ = some (.int .i64 (q : Int)))
          (first | exact ⟨d0, d1⟩ | assumption)
          (fail)
        go_wp2_with fail
        go_region_held3 (fun w' => w'.cell? ⟨h, 0, none⟩ = some (.slice (some ⟨b, o, none⟩) n1 c1') ∧ w'.cell? ⟨h, 1, none⟩ = some (.int .i64 (q : Int)) ∧ w'.cell? ⟨b, o + q, none⟩ = some (.int .u8 (x : Int)))
          (first | exact ⟨e0, e1, d2⟩ | assumption)
          (fail)
        have hpq : p + k = q := HQ.out
        by_cases hb1 : 0 < k ∧ x = 0
        · obtain ⟨h1, rfl⟩ := hb1
          have HTT : Hid (T = (0, (full.drop p, 3))) := Lib.hid (by rw [HN.out]; unfold numS; rw [HR.out, ← HF.out, fnum_bad hbd _ (.inl ⟨h1, HX.out⟩)]; rfl)
          clear HF
          go_wp2_with fail
          refine (fail5_any L h full q p 0 3 wr.drew.drew HBd.out hpn).mono ?_
          rintro en w2 ⟨rfl, hb2, hg2⟩
          have HB2 := Lib.hid hb2
          clear hb2
          go_wp2_with fail
          go_ret
          rw [HTT.out]
          exact ⟨rfl, ⟨p, HB2.out, rfl⟩, HG.out.trans hg2⟩
        · by_cases hb2 : k = 9 ∧ 1 < x
          · obtain ⟨rfl, h2⟩ := hb2
            have HTT : Hid (T = (0, (full.drop p, 3))) := Lib.hid (by rw [HN.out]; unfold numS; rw [HR.out, ← HF.out, fnum_bad hbd _ (.inr ⟨rfl, by rw [HX.out]; omega⟩)]; rfl)
            have h3 : ¬ x = 0 := by omega
            clear HF
            go_wp2_with fail
            refine (fail5_any L h full q p 0 3 wr.drew.drew HBd.out hpn).mono ?_
            rintro en w2 ⟨rfl, hb2, hg2⟩
            have HB2 := Lib.hid hb2
            clear hb2
            go_wp2_with fail
            go_ret
            rw [HTT.out]
            exact ⟨rfl, ⟨p, HB2.out, rfl⟩, HG.out.trans hg2⟩
          · have hnb : ¬((0 < k ∧ at8 (full.drop p) k = 0) ∨ (k = 9 ∧ 1 < at8 (full.drop p) k)) := by rw [HX.out]; exact fun h => h.elim hb1 hb2
            have HNB := Lib.hid hnb
            clear hnb
            have hk3 : (¬ 0 < k ∧ ¬ k = 9 ∧ x = 0) ∨ (¬ 0 < k ∧ ¬ k = 9 ∧ ¬ x = 0) ∨ (0 < k ∧ ¬ x = 0 ∧ ¬ k = 9) ∨ (k = 9 ∧ x = 1) := by omega
            have hfit := num_fits (acc := acc) (x := x) HA.out hk9 (by omega)
            have ha2 := num_lt (acc := acc) (x := x) HA.out
            obtain ⟨acc', hacc⟩ : ∃ acc', acc + x % 128 * 128 ^ k = acc' := ⟨_, rfl⟩
            obtain ⟨m1, hm1⟩ : ∃ m1, x % 128 * 128 ^ k = m1 := ⟨_, rfl⟩
            have HON := Lib.hid (fun h : ¬ x < 128 => (fnum_on hbd acc HNB.out (by rw [HX.out]; exact h)).symm.trans HF.out)
            have HEN := Lib.hid (fun h : x < 128 => (fnum_end hbd acc HNB.out (by rw [HX.out]; exact h)).symm.trans HF.out)
            rw [HX.out, hacc] at HON HEN
            rw [hacc] at hfit ha2
            have e1m : IntKind.u64.wrap ((x : Int) % 128 * (o1 : Int)) = (m1 : Int) := by
              rw [show (x : Int) % 128 * (o1 : Int) = (m1 : Int) by rw [← hm1, ← HO.out]; push_cast; rfl, IntKind.wrap_u64]
              omega
            have e2m : IntKind.u64.wrap ((acc : Int) + (m1 : Int)) = (acc' : Int) := by
              rw [show (acc : Int) + (m1 : Int) = (acc' : Int) by omega, IntKind.wrap_u64]
              omega
            have EA := Lib.hid (fun h : x = 0 => (show IntKind.u64.wrap (acc : Int) = (acc' : Int) by
              have : m1 = 0 := by rw [← hm1, h]; simp
              rw [IntKind.wrap_u64]
              omega))
            have ho1 : o1 < 18446744073709551616 := by have := pow9 hk9; have := HO.out; omega
            have EC := Lib.hid (fun h : x = 1 => (show IntKind.u64.wrap (o1 : Int) = (o1 : Int) ∧ IntKind.u64.wrap ((acc : Int) + (o1 : Int)) = (acc' : Int) by
              have : m1 = o1 := by rw [← hm1, h, HO.out]; simp
              refine ⟨?_, ?_⟩ <;> rw [IntKind.wrap_u64] <;> omega))
            have HM1 := Lib.hid hm1
            have HACC := Lib.hid hacc
            have HA2 := Lib.hid ha2
            have HFI := Lib.hid hfit
            have hstep : BR (wr.setCell ⟨h, 1, none⟩ (.int .i64 ((q : Int) + 1))).drew.drew L h full (q + 1) 0 := (HB.out.next (by have := HLEN.out; have := HL.out; rw [List.length_drop] at *; omega)).drew.drew
            have HST := Lib.hid hstep
            have HG3 := Lib.hid (((hg.trans (grown_set wr h 1 (.int .i64 ((q : Int) + 1)))).trans (grown_drew _ _)).trans (grown_drew _ _))
            clear hstep hb1 hb2 ha2 hacc HF HNB hfit hm1 ho1
            by_cases hc : x < 128
            · have HE := Lib.hid (HEN.out hc)
              clear HEN HON
              by_cases htop : top < acc'
              · have HTT : Hid (T = (0, (full.drop p, 6))) := Lib.hid (by rw [HN.out]; unfold numS; rw [HR.out, ← HE.out]; simp only [if_true]; rw [if_pos htop]; rfl)
                rcases hk3 with ⟨h1, h3, rfl⟩ | ⟨h1, h3, h4⟩ | ⟨h1, h2, h3⟩ | ⟨rfl, rfl⟩
                case' inl => have eA := EA.out rfl
                case' inr.inr.inr => have eC := EC.out rfl
                all_goals
                  clear EA EC
                  go_wp2_with fail
                  refine (fail5_any L h full (q + 1) p 0 6 _ HST.out hpn).mono ?_
                  rintro en w2 ⟨rfl, hb2, hg2⟩
                  have HB2 := Lib.hid hb2
                  clear hb2
                  go_wp2_with fail
                  go_ret
                  rw [HTT.out]
                  exact ⟨rfl, ⟨p, HB2.out, rfl⟩, HG3.out.trans hg2⟩
              · have HTT : Hid (T = (acc', ((full.drop p).drop (k + 1), 0))) := Lib.hid (by rw [HN.out]; unfold numS; rw [HR.out, ← HE.out]; simp only [if_true]; rw [if_neg htop]; rfl)
                rcases hk3 with ⟨h1, h3, rfl⟩ | ⟨h1, h3, h4⟩ | ⟨h1, h2, h3⟩ | ⟨rfl, rfl⟩
                case' inl => have eA := EA.out rfl
                case' inr.inr.inr => have eC := EC.out rfl
                all_goals
                  clear EA EC
                  go_wp2_with fail
                  go_ret
                  rw [HTT.out]
                  exact ⟨rfl, ⟨q + 1, HST.out, by rw [List.drop_drop]; congr 1; omega⟩, HG3.out⟩
            · have HE := Lib.hid (HON.out hc)
              clear HEN HON
              have hk8 : k < 9 := by omega
              have e3m : IntKind.u64.wrap ((o1 : Int) * 128) = ((o1 * 128 : Nat) : Int) := by
                have := pow9 (show k + 1 ≤ 9 by omega)
                rw [Nat.pow_succ, ← HO.out] at this
                rw [IntKind.wrap_u64]
                omega
              have HO2 : Hid (o1 * 128 = 128 ^ (k + 1)) := Lib.hid (by rw [Nat.pow_succ, HO.out])
              obtain ⟨o2, ho2⟩ : ∃ o2, o1 * 128 = o2 := ⟨_, rfl⟩
              rw [ho2] at e3m HO2
              rcases hk3 with ⟨h1, h3, rfl⟩ | ⟨h1, h3, h4⟩ | ⟨h1, h2, h3⟩ | ⟨rfl, rfl⟩
              case inl => omega
              case inr.inr.inr => omega
              all_goals
                clear EA EC
                go_wp2_with fail
                go_roundw
                case rel => exact ⟨k + 1, acc', o2, by go_num, rfl, rfl, by omega, HA2, HO2, HE, Lib.hid (by rw [show p + (k + 1) = q + 1 by omega]; exact HST.out), HG3.out⟩
                case measure => simp [intOf]; omega
  · obtain ⟨A, n, c, h1, h2⟩ := hb
    have c2 := h1.cell 2
    have HK := Lib.hid (show BR w L h full p e from ⟨A, n, c, h1, h2⟩)
    clear h1 h2
    go_enter Try.func15, Try.ntmps15
    go_wp2_with fail
    go_ret
    have hN : numT top (full.drop p, e) = (0, (full.drop p, e)) := if_neg h0
    rw [hN]
    exact ⟨rfl, ⟨p, HK.out, rfl⟩, World.grownBy.refl _ _⟩
end Go.Proofs.Ytbogejpjnbdfcaa
