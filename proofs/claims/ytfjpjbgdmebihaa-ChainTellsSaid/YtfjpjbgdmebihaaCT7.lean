/-
  SaidChainTells, part 7 of 9: what the theorem chainTells_holds reaches.
-/
import Derived.Test.YtfjpjbgdmebihaaCT6
import Derived.Deep.QuietTactic
import Derived.BigQuiet
import Derived.WalkSmall
namespace Go.Proofs.Ytfjpjbgdmebihaa
open Go.RowKit
set_option maxRecDepth 100000
/-- How often x is among the first k. -/
def cnt14 (xs : List Int) (x : Int) : Nat → Nat
  | 0 => 0
  | k + 1 => cnt14 xs x k + if gt14 xs k = x then 1 else 0
theorem cnt14_le (xs : List Int) (x : Int) (k : Nat) : cnt14 xs x k ≤ k := by
  induction k with
  | zero => exact Nat.le_refl _
  | succ k ih => rw [cnt14]; split <;> omega
theorem cnt14_take (xs : List Int) (x : Int) (k : Nat) (hk : k ≤ xs.length) : cnt14 xs x k = (xs.take k).count x := by
  induction k with
  | zero => simp [cnt14]
  | succ k ih =>
    rw [cnt14, ih (by omega), List.take_add_one, List.getElem?_eq_getElem (by omega), List.count_append, gt14_in (by omega)]
    simp [List.count_singleton]
theorem cnt14_all (xs : List Int) (x : Int) : cnt14 xs x xs.length = xs.count x := by
  rw [cnt14_take _ _ _ (Nat.le_refl _), List.take_length]
theorem want14_mem (S : Sv14) (n : Nat) (x : Int) : x ∈ want14 S n ↔ ∃ i : Nat, i < n ∧ Queues14 S i (gt14 S.H i) ∧ x = (i : Int) := by
  induction n with
  | zero => simp [want14]
  | succ n ih =>
    rw [want14, List.mem_append, ih]
    constructor
    · rintro (⟨i, h1, h2, h3⟩ | h)
      · exact ⟨i, by omega, h2, h3⟩
      · split at h
        · exact ⟨n, by omega, by assumption, by simpa using h⟩
        · cases h
    · rintro ⟨i, h1, h2, h3⟩
      rcases (show i < n ∨ i = n by omega) with h | h
      · exact .inl ⟨i, h, h2, h3⟩
      · subst h
        exact .inr (by rw [if_pos h2]; simp [h3])
theorem want14_up (S : Sv14) (n : Nat) : (want14 S n).Pairwise (fun a b => a < b) := by
  induction n with
  | zero => exact List.Pairwise.nil
  | succ n ih =>
    rw [want14, List.pairwise_append]
    refine ⟨ih, by split <;> simp, fun a ha b hb => ?_⟩
    obtain ⟨i, h1, _, h3⟩ := (want14_mem S n a).1 ha
    split at hb
    · have h4 : b = (n : Int) := by simpa using hb
      omega
    · cases hb
theorem count14_le {xs : List Int} (h : xs.Pairwise (fun a b => a < b)) (x : Int) : xs.count x = if x ∈ xs then 1 else 0 := by
  have hn : xs.Nodup := h.imp (fun h1 h2 => by omega)
  split
  · rename_i hm
    rw [List.Nodup.count hn, if_pos hm]
  · rename_i hm
    exact List.count_eq_zero.2 hm
theorem srt14_perm (xs : List Int) : (srt14 xs).Perm xs := List.mergeSort_perm _ _
theorem srt14_up (xs : List Int) : (srt14 xs).Pairwise (fun a b => a ≤ b) := by
  have h := List.pairwise_mergeSort (le := fun x y : Int => decide (x ≤ y)) (fun a b c h1 h2 => by simp at *; omega) (fun a b => by simp; omega) xs
  exact h.imp (fun h => by simpa using h)
/-- What is in the list, each once, in order. -/
theorem srt14_want (S : Sv14) (xs : List Int) (n : Nat) : srt14 xs = want14 S n ↔ ∀ x : Int, xs.count x = if x ∈ want14 S n then 1 else 0 := by
  constructor
  · intro h x
    rw [← count14_le (want14_up S n), ← h]
    exact ((srt14_perm xs).count_eq x).symm
  · intro h
    refine List.Perm.eq_of_pairwise (le := fun a b : Int => a ≤ b) (fun a b _ _ h1 h2 => by omega) (srt14_up xs) ((want14_up S n).imp (fun h => by omega)) ?_
    refine (srt14_perm xs).trans (List.perm_iff_count.2 (fun x => ?_))
    rw [h x, count14_le (want14_up S n)]
/-- What the document's queue asks. -/
def RQueue14 (S : Sv14) : Prop := (∀ i : Nat, i < S.H.length → (Queues14 S i (gt14 S.H i) ↔ cnt14 S.Q (i : Int) S.Q.length = 1) ∧ cnt14 S.Q (i : Int) S.Q.length ≤ 1 ∧ ¬ (cnt14 S.Q (i : Int) S.Q.length = 1 ∧ Heard14 S (gt14 S.H i))) ∧ ∀ k, k < S.Q.length → 0 ≤ gt14 S.Q k ∧ gt14 S.Q k < (S.H.length : Int)
theorem rqueue14_iff (S : Sv14) (h32 : S.H.length ≤ 32) : RQueue14 S ↔ Queue14 S := by
  constructor
  · rintro ⟨h1, h2⟩
    have hs : srt14 S.Q = want14 S S.H.length := by
      rw [srt14_want]
      intro x
      by_cases hx : ∃ i : Nat, i < S.H.length ∧ x = (i : Int)
      · obtain ⟨i, hi, rfl⟩ := hx
        have h3 := h1 i hi
        rw [cnt14_all] at h3
        by_cases hq : Queues14 S i (gt14 S.H i)
        · rw [if_pos ((want14_mem _ _ _).2 ⟨i, hi, hq, rfl⟩)]
          exact h3.1.1 hq
        · rw [if_neg (fun h => by
            obtain ⟨j, _, h5, h6⟩ := (want14_mem _ _ _).1 h
            obtain rfl : i = j := by omega
            exact hq h5)]
          have h4 : ¬ List.count (i : Int) S.Q = 1 := fun h => hq (h3.1.2 h)
          have h5 := h3.2.1
          omega
      · rw [if_neg (fun h => by
          obtain ⟨j, hj, _, h6⟩ := (want14_mem _ _ _).1 h
          exact hx ⟨j, hj, h6⟩)]
        refine List.count_eq_zero.2 (fun h => hx ?_)
        obtain ⟨k, hk, rfl⟩ := List.getElem_of_mem h
        have h5 := h2 k hk
        rw [gt14_in hk] at h5
        exact ⟨(S.Q[k]).toNat, by omega, by omega⟩
    refine ⟨?_, fun j hj hq hh => (h1 j hj).2.2 ⟨(h1 j hj).1.1 hq, hh⟩, hs⟩
    have h4 := congrArg List.length hs
    rw [srt14_len] at h4
    have h5 := want14_len S S.H.length
    omega
  · rintro ⟨_, h1, hs⟩
    have hc := (srt14_want S S.Q S.H.length).1 hs
    refine ⟨fun i hi => ?_, fun k hk => ?_⟩
    · rw [cnt14_all, hc]
      have hw : ((i : Int) ∈ want14 S S.H.length) ↔ Queues14 S i (gt14 S.H i) := by
        rw [want14_mem]
        constructor
        · rintro ⟨j, _, h5, h6⟩
          obtain rfl : i = j := by omega
          exact h5
        · exact fun h => ⟨i, hi, h, rfl⟩
      by_cases hq : Queues14 S i (gt14 S.H i)
      · rw [if_pos (hw.2 hq)]
        exact ⟨by simp [hq], by omega, fun h => h1 i hi hq h.2⟩
      · rw [if_neg (fun h => hq (hw.1 h))]
        exact ⟨by simp [hq], by omega, fun h => by have := h.1; omega⟩
    · have hm : gt14 S.Q k ∈ want14 S S.H.length := by
        have h3 := hc (gt14 S.Q k)
        have h4 : 0 < List.count (gt14 S.Q k) S.Q := List.count_pos_iff.2 (gt14_mem hk)
        split at h3
        · assumption
        · omega
      obtain ⟨i, hi, _, h6⟩ := (want14_mem _ _ _).1 hm
      omega
set_option maxHeartbeats 2000000 in
theorem rqueue14 (v : Value) (S : Sv14) (b : Bool) (w : World) (h : St14 w v S) (h32 : S.H.length ≤ 32) (hok : ∀ j, j < S.H.length → (gt14 S.H j).s = 4 → us14 usH S.H (gt14 S.H j).f = true) (hbt0 : b = true ↔ Queue14 S) :
    Calls Try.prog 24 #[v] w fun e w' => e = .returned (.bool b) ∧ Below w.heap.size w w' := by
  have hbt := hbt0.trans (rqueue14_iff S h32).symm
  obtain ⟨A0, A1, A2, A3, A4, n0, n1, n2, n3, n4, c0, c1, c2, c3, c4, sq, rfl, hs⟩ := h
  have HX0 := Lib.hid (Bx14.new hs)
  have HBT := Lib.hid hbt
  have hnT := hs.m1
  have hnH := hs.m2
  have hnL := hs.m3
  have HLT := Lib.hid hs.l1
  have HLH := Lib.hid hs.l2
  have HLL := Lib.hid hs.l3
  have HLQ := Lib.hid hs.l4
  have hnQ := hs.m4
  have HOK := Lib.hid hok
  have t1 := HX0.out.x.cell 2
  clear hs hbt hbt0 h32 hok
  go_enter Try.func24, Try.ntmps24
  go_wp2_with fail
  clear t1
  go_loopw [3] (fun i wr => ∃ k : Nat, i = .int .i64 (k : Int) ∧ k ≤ n2 ∧ Hid (∀ j : Nat, j < k → ((Queues14 S j (gt14 S.H j) ↔ cnt14 S.Q (j : Int) n4 = 1) ∧ cnt14 S.Q (j : Int) n4 ≤ 1 ∧ ¬ (cnt14 S.Q (j : Int) n4 = 1 ∧ Heard14 S (gt14 S.H j)))) ∧ Hid (Bx14 w S A0 A1 A2 A3 A4 n0 n1 n2 n3 n4 c0 c1 c2 c3 c4 sq wr)) (fun i _ => n2 - (intOf i).toNat)
  case atStart => exact ⟨0, rfl, by omega, Lib.hid (fun j h => by omega), HX0⟩
  case round =>
    obtain ⟨k, rfl, hk, HN, HW⟩ := hrel
    have t0_ := HW.out.x.cell 2
    by_cases hkn : k < n2
    · skip
      have p4_ := HW.out.x.cell 4
      go_wp2_with fail
      go_loopw [4, 5] (fun c i wm => ∃ m : Nat, c = .int .i64 ((cnt14 S.Q (k : Int) m : Nat) : Int) ∧ i = .int .i64 (m : Int) ∧ m ≤ n4 ∧ Hid (wr = wm)) (fun _ i _ => n4 - (intOf i).toNat)
      case atStart => exact ⟨0, rfl, rfl, by omega, Lib.hid rfl⟩
      case round =>
        obtain ⟨m, rfl, rfl, hm, HWM⟩ := hrel
        obtain rfl := HWM.out
        clear HWM
        obtain ⟨cn, hcn⟩ : ∃ r, cnt14 S.Q (k : Int) m = r := ⟨_, rfl⟩
        have hck : cn ≤ m := by rw [← hcn]; exact cnt14_le _ _ _
        have HCN := Lib.hid hcn
        rw [hcn]
        clear hcn
        by_cases hmn : m < n4
        · obtain ⟨a4, of4, hA4, _, hq4⟩ := Lq.at_ len14I (by omega) HW.out.s.r4 (show m < S.Q.length by rw [HW.out.s.l4]; omega)
          subst hA4
          obtain ⟨y, hy⟩ : ∃ y, gt14 S.Q m = y := ⟨_, rfl⟩
          rw [hy] at hq4
          have e4 : wr.cell? ⟨a4, of4 + m, none⟩ = some (.int .i64 y) := by have h := hq4 0 _ rfl; rwa [Nat.mul_one] at h
          have HC1 : Hid (cnt14 S.Q (k : Int) (m + 1) = cn + if y = (k : Int) then 1 else 0) := Lib.hid (by rw [cnt14, HCN.out, hy])
          have i0 : (0 : Int) ≤ (m : Int) := by omega
          have i1 : (m : Int) < (n4 : Int) := by omega
          have hw1 : IntKind.i64.wrap ((cn : Int) + 1) = ((cn + 1 : Nat) : Int) := by rw [IntKind.wrap_i64]; omega
          clear hq4 hy
          by_cases hyk : y = (k : Int)
          · have HC2 : Hid (cnt14 S.Q (k : Int) (m + 1) = cn + 1) := Lib.hid (by rw [HC1.out, if_pos hyk])
            subst hyk
            go_wp2_with fail
            go_roundw
            case rel => exact ⟨m + 1, by rw [HC2.out]; first | rfl | simp, by go_num, by omega, Lib.hid (by first | rfl | trivial)⟩
            case measure => simp [intOf]; omega
          · have hykb : (y == (k : Int)) = false := by simpa using hyk
            have HC2 : Hid (cnt14 S.Q (k : Int) (m + 1) = cn) := Lib.hid (by rw [HC1.out, if_neg hyk]; rfl)
            go_wp2_with fail
            go_roundw
            case rel => exact ⟨m + 1, by rw [HC2.out], by go_num, by omega, Lib.hid (by first | rfl | trivial)⟩
            case measure => simp [intOf]; omega
        · obtain rfl : m = n4 := by omega
          obtain ⟨x, hx⟩ : ∃ x, gt14 S.H k = x := ⟨_, rfl⟩
          obtain ⟨xz, xf, xc, xq, xu⟩ := x
          have HXE := Lib.hid hx
          have hkl : k < S.H.length := by rw [HW.out.s.l2]; exact hkn
          have hxo : xz = 4 → us14 usH S.H xf = true := fun h => by have h2 := HOK.out k hkl (by rw [hx]; exact h); rwa [hx] at h2
          have HXO := Lib.hid hxo
          obtain ⟨bq, hbq⟩ := ex_bool14 (Queues14 S k (⟨xz, xf, xc, xq, xu⟩ : Th14))
          have HBQ := Lib.hid hbq
          have HC := Lib.hid (rqueues14 _ S k xz xf xc xq xu bq wr HW.out.st hkl hx hxo hbq)
          have HN3 := Lib.hid (fun h : ((Queues14 S k (gt14 S.H k) ↔ cnt14 S.Q (k : Int) m = 1) ∧ cnt14 S.Q (k : Int) m ≤ 1 ∧ ¬ (cnt14 S.Q (k : Int) m = 1 ∧ Heard14 S (gt14 S.H k))) => (show Hid (∀ j : Nat, j < k + 1 → ((Queues14 S j (gt14 S.H j) ↔ cnt14 S.Q (j : Int) m = 1) ∧ cnt14 S.Q (j : Int) m ≤ 1 ∧ ¬ (cnt14 S.Q (j : Int) m = 1 ∧ Heard14 S (gt14 S.H j)))) from Lib.hid (fun j hj => by
            rcases (show j < k ∨ j = k by omega) with h5 | h5
            · exact HN.out j h5
            · rw [h5]; exact h)))
          have HFF2 := Lib.hid (fun h2 : ¬ ((Queues14 S k (gt14 S.H k) ↔ cnt14 S.Q (k : Int) m = 1) ∧ cnt14 S.Q (k : Int) m ≤ 1 ∧ ¬ (cnt14 S.Q (k : Int) m = 1 ∧ Heard14 S (gt14 S.H k))) => (show Hid (b = false) from Lib.hid (bool14_of HBT.out (fun h => h2 (by
            have h3 := h.1 k (by rw [HLH.out]; exact hkn)
            rwa [HLQ.out] at h3)))))
          have h1_ : ¬ (m : Int) < (m : Int) := by omega
          clear hx hkl hxo hbq
          have pA0 := HW.out.x.cell 0
          have pA1 := HW.out.x.cell 1
          have pA2 := HW.out.x.cell 2
          have pA3 := HW.out.x.cell 3
          have pA4 := HW.out.x.cell 4
          have pA5 := HW.out.x.cell 5
          go_wp2_with fail
          refine HC.out.mono ?_
          rintro e u ⟨rfl, hb1⟩
          have HU := Lib.hid (HW.out.step hb1)
          clear hb1 HC
          by_cases c1 : cn = 1
          · subst c1
            cases bq with
            | false =>
              have HF := HFF2.out (fun h => by have h3 := h.1.2 HCN.out; rw [HXE.out] at h3; have := HBQ.out.2 h3; cases this)
              go_wp2_with fail
              go_ret
              exact ⟨by rw [HF.out]; rfl, HU.out.b⟩
            | true =>
              obtain ⟨a, of, hA, hab, hq⟩ := Lq.at_ len14H (by omega) HU.out.s.r2 (show k < S.H.length by rw [HLH.out]; exact hkn)
              subst hA
              rw [HXE.out] at hq
              have e0 : u.cell? ⟨a, of + k * 5, none⟩ = some (.int .i64 xz) := hq 0 _ rfl
              have e1 : u.cell? ⟨a, of + k * 5 + 1, none⟩ = some (.int .i64 xf) := hq 1 _ rfl
              have p2_ := HU.out.x.cell 2
              have j0 : (0 : Int) ≤ (k : Int) := by omega
              have j1 : (k : Int) < (n2 : Int) := by omega
              clear hq hab
              by_cases z4 : xz = 4
              · subst z4
                obtain ⟨q, hxq, hql, _, hat⟩ := us14_in def14H (HXO.out rfl)
                subst hxq
                obtain ⟨y, hy⟩ : ∃ y, gt14 S.H q = y := ⟨_, rfl⟩
                obtain ⟨yz, yf, yc, yq, yu⟩ := y
                have HAT : Hid (at14 usH S.H (q : Int) = ⟨yz, yf, yc, yq, yu⟩) := Lib.hid (hat.trans hy)
                obtain ⟨a2, of2, hA2, _, hq2⟩ := Lq.at_ len14H (by omega) HU.out.s.r2 hql
                injection hA2 with hA2
                injection hA2 with ha2 ho2
                subst ha2 ho2
                rw [hy] at hq2
                have g0 : u.cell? ⟨a, of + q * 5, none⟩ = some (.int .i64 yz) := hq2 0 _ rfl
                have g1 : (0 : Int) ≤ (q : Int) := by omega
                have g2 : (q : Int) < (n2 : Int) := by rw [HLH.out] at hql; omega
                clear hat hy hq2 hql
                by_cases z5 : yz = 5
                · subst z5
                  have HF := HFF2.out (fun h => h.2.2 ⟨HCN.out, by rw [HXE.out]; exact ⟨rfl, by show (at14 usH S.H (q : Int)).s = 5; rw [HAT.out]⟩⟩)
                  go_wp2_with fail
                  go_quiet (fail)
                  go_wp2_with fail
                  go_ret
                  exact ⟨by rw [HF.out]; rfl, (HU.out.step (below_drewN _)).b⟩
                · have z5b : (yz == 5) = false := by simpa using z5
                  have HN2 := HN3.out ⟨⟨fun _ => HCN.out, fun _ => by rw [HXE.out]; exact HBQ.out.1 rfl⟩, by rw [HCN.out]; omega, fun h => by
                    have h3 := h.2
                    rw [HXE.out] at h3
                    have h4 : (at14 usH S.H (q : Int)).s = 5 := h3.2
                    rw [HAT.out] at h4
                    exact z5 h4⟩
                  go_wp2_with fail
                  go_quiet (fail)
                  go_wp2_with fail
                  go_roundw
                  case rel => exact ⟨k + 1, by go_num, by omega, HN2, Lib.hid (HU.out.step (below_drewN _))⟩
                  case measure => simp [intOf]; omega
              · have z4b : (xz == 4) = false := by simpa using z4
                have HN2 := HN3.out ⟨⟨fun _ => HCN.out, fun _ => by rw [HXE.out]; exact HBQ.out.1 rfl⟩, by rw [HCN.out]; omega, fun h => by
                  have h3 := h.2
                  rw [HXE.out] at h3
                  exact z4 h3.1⟩
                go_wp2_with fail
                go_quiet (fail)
                go_wp2_with fail
                go_roundw
                case rel => exact ⟨k + 1, by go_num, by omega, HN2, Lib.hid (HU.out.step (below_drewN _))⟩
                case measure => simp [intOf]; omega
          · by_cases c0 : cn = 0
            · subst c0
              have c1b : (((0 : Nat) : Int) == 1) = false := by decide
              cases bq with
              | true =>
                have HF := HFF2.out (fun h => by have h3 := h.1.1 (by rw [HXE.out]; exact HBQ.out.1 rfl); rw [HCN.out] at h3; cases h3)
                go_wp2_with fail
                go_ret
                exact ⟨by rw [HF.out]; rfl, HU.out.b⟩
              | false =>
                have HN2 := HN3.out ⟨⟨fun h => (by rw [HXE.out] at h; have := HBQ.out.2 h; cases this), fun h => (by rw [HCN.out] at h; cases h)⟩, by rw [HCN.out]; omega, fun h => by have h1 := h.1; rw [HCN.out] at h1; cases h1⟩
                have p2_ := HU.out.x.cell 2
                go_wp2_with fail
                go_quiet (fail)
                go_wp2_with fail
                go_roundw
                case rel => exact ⟨k + 1, by go_num, by omega, HN2, Lib.hid (HU.out.step (below_drewN _))⟩
                case measure => simp [intOf]; omega
            · have HF := HFF2.out (fun h => by have h3 := h.2.1; rw [HCN.out] at h3; omega)
              have c1b : ((cn : Int) == 1) = false := by rw [beq_eq_false_iff_ne]; omega
              have c2b : (1 : Int) < (cn : Int) := by omega
              cases bq with
              | true =>
                go_wp2_with fail
                go_ret
                exact ⟨by rw [HF.out]; rfl, HU.out.b⟩
              | false =>
                go_wp2_with fail
                go_ret
                exact ⟨by rw [HF.out]; rfl, HU.out.b⟩
    · obtain rfl : k = n2 := by omega
      have h1 : ¬ (k : Int) < (k : Int) := by omega
      have p4_ := HW.out.x.cell 4
      go_wp2_with fail
      go_loopw [6] (fun i wm => ∃ m : Nat, i = .int .i64 (m : Int) ∧ m ≤ n4 ∧ Hid (∀ j, j < m → 0 ≤ gt14 S.Q j ∧ gt14 S.Q j < (k : Int)) ∧ Hid (Bx14 w S A0 A1 A2 A3 A4 n0 n1 k n3 n4 c0 c1 c2 c3 c4 sq wm)) (fun i _ => n4 - (intOf i).toNat)
      case atStart => exact ⟨0, rfl, by omega, Lib.hid (fun j h => by omega), HW⟩
      case round =>
        clear HW p4_ t0_
        obtain ⟨m, rfl, hm, HM, HW⟩ := hrel
        rename_i wq
        have p2_ := HW.out.x.cell 2
        have p4_ := HW.out.x.cell 4
        by_cases hmn : m < n4
        · obtain ⟨a4, of4, hA4, _, hq4⟩ := Lq.at_ len14I (by omega) HW.out.s.r4 (show m < S.Q.length by rw [HW.out.s.l4]; omega)
          subst hA4
          obtain ⟨y, hy⟩ : ∃ y, gt14 S.Q m = y := ⟨_, rfl⟩
          have HY := Lib.hid hy
          rw [hy] at hq4
          have e4 : wr.cell? ⟨a4, of4 + m, none⟩ = some (.int .i64 y) := by have h := hq4 0 _ rfl; rwa [Nat.mul_one] at h
          have i0 : (0 : Int) ≤ (m : Int) := by omega
          have i1 : (m : Int) < (n4 : Int) := by omega
          have HFY := Lib.hid (fun (h2 : ¬ (0 ≤ y ∧ y < (k : Int))) => (show Hid (b = false) from Lib.hid (bool14_of HBT.out (fun h => h2 (by
            have h3 := h.2 m (by rw [HLQ.out]; exact hmn)
            rwa [HY.out, HLH.out] at h3)))))
          clear hq4 hy
          by_cases y0 : y < 0
          · have HF := HFY.out (by omega)
            go_wp2_with fail
            go_region
            go_wp2_with fail
            go_ret
            exact ⟨by rw [HF.out]; rfl, (HW.out.step (Below.refl _ _).drew).b⟩
          · have y0b : decide (y < 0) = false := decide_eq_false y0
            by_cases y1 : (k : Int) ≤ y
            · have HF := HFY.out (by omega)
              go_wp2_with fail
              go_region
              go_wp2_with fail
              go_ret
              exact ⟨by rw [HF.out]; rfl, (HW.out.step (Below.refl _ _).drew).b⟩
            · have HM2 : Hid (∀ j, j < m + 1 → 0 ≤ gt14 S.Q j ∧ gt14 S.Q j < (k : Int)) := Lib.hid (fun j hj => by
                rcases (show j < m ∨ j = m by omega) with h5 | h5
                · exact HM.out j h5
                · rw [h5, HY.out]; omega)
              go_wp2_with fail
              go_region
              go_wp2_with fail
              go_roundw
              case rel => exact ⟨m + 1, by go_num, by omega, HM2, Lib.hid (HW.out.step (Below.refl _ _).drew)⟩
              case measure => simp [intOf]; omega
        · obtain rfl : m = n4 := by omega
          have HT : Hid (b = true) := Lib.hid (HBT.out.2 ⟨fun i hi => by
            rw [HLQ.out]
            exact HN.out i (by rw [HLH.out] at hi; exact hi), fun j hj => by
            rw [HLH.out]
            exact HM.out j (by rw [HLQ.out] at hj; exact hj)⟩)
          have h2 : ¬ (m : Int) < (m : Int) := by omega
          go_wp2_with fail
          go_ret
          exact ⟨by rw [HT.out]; rfl, HW.out.b⟩
end Go.Proofs.Ytfjpjbgdmebihaa
