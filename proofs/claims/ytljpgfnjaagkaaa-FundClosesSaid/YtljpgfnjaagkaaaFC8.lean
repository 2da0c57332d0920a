/-
  SaidFundCloses, part 8 of 13: what the theorem fundCloses_holds reaches.
-/
import Derived.Test.YtljpgfnjaagkaaaFC7
namespace Go.Proofs.Ytljpgfnjaagkaaa
open Go.RowKit
set_option maxRecDepth 100000
theorem filt15_next {xs : List Nat} {p : Nat → Bool} {j : Nat} (hj : j < xs.length) : (xs.take (j + 1)).filter p = (xs.take j).filter p ++ if p (nth xs j) then [nth xs j] else [] := by
  rw [List.take_add_one, List.getElem?_eq_getElem hj, nth_in hj, List.filter_append]
  congr 1
  cases h : p xs[j] <;> simp [h]
theorem filt15_head {xs : List Nat} {p : Nat → Bool} {j : Nat} (hj : j ≤ xs.length) (h : ∀ t, t < j → p (nth xs t) = true) : (xs.take j).filter p = xs.take j := by
  rw [List.filter_eq_self]
  intro x hx
  obtain ⟨t, ht, rfl⟩ := List.getElem_of_mem hx
  rw [List.length_take] at ht
  rw [List.getElem_take, ← nth_in]
  exact h t (by omega)
theorem nth15_take {xs : List Nat} {j t : Nat} (h : t < j) : nth (xs.take j) t = nth xs t := by simp [nth, List.getElem?_take, h]
theorem nth15_low {xs ys : List Nat} {t : Nat} (h : t < xs.length) : nth (xs ++ ys) t = nth xs t := by simp [nth, List.getElem?_append_left h]
theorem nth15_at {xs : List Nat} {x t : Nat} (h : xs.length = t) : nth (xs ++ [x]) t = x := by subst h; simp [nth]
/-- What a slice of ints that is answered reads as. -/
def RetR15 (w : World) (xs : List Nat) (e : Ending) (w' : World) : Prop := ∃ A c, e = .returned (.slice A xs.length c) ∧ Rd w' w'.heap.size A xs ∧ Below w.heap.size w w'
theorem rd15_own {w : World} {base : Nat} {A : Option Addr} {c n : Nat} {xs : List Nat} (h : w.ownsRow base 3 1 (.slice A n c) n (ints xs)) (hl : xs.length = n) : Rd w w.heap.size A xs := by
  rcases h.2 with ⟨_, h1⟩ | ⟨g, cap, cur, hv, _, _⟩
  · intro hx
    exact absurd (List.eq_nil_of_length_eq_zero (by omega)) hx
  · injection hv with hA hn hc
    subst hA hl
    exact (Ib13.of_own h rfl).rd (fun _ _ => rfl)
/-- What DeleteFunc answers. -/
def RetF15 (B : Nat) (w : World) (ys : List Nat) (e : Ending) (w' : World) : Prop := ∃ A c, e = .returned (.slice A ys.length c) ∧ Rd w' w'.heap.size A ys ∧ Below B w w'
/-- Between two rounds of DeleteFunc. -/
structure Df15 (w : World) (B g n : Nat) (xs : List Nat) (p : Nat → Bool) (k j : Nat) (W : World) : Prop where
  b : Below B w W
  l : ((xs.take j).filter (fun x => !p x)).length = k
  r : ∃ h : Nat → Nat, Ib13 W g n h ∧ (∀ t, t < k → h t = nth ((xs.take j).filter (fun x => !p x)) t) ∧ ∀ t, j ≤ t → t < n → h t = nth xs t
set_option maxHeartbeats 4000000 in
theorem del15 (A : Option Addr) (xs : List Nat) (n c gx B : Nat) (w : World) (hl : xs.length = n) (ho : w.ownsRow B 3 1 (.slice A n c) n (ints xs)) (hn : n ≤ 1000000) (hB : B ≤ w.heap.size) (p : Nat → Bool)
    (hcl : ∀ W, Below B w W → ∀ x, x ∈ xs → Calls Try.prog 35 #[.int .i64 ((x : Nat) : Int), .pointer (some ⟨gx, 0, none⟩)] W fun e w' => e = .returned (.bool (p x)) ∧ Below W.heap.size W w') :
    Calls Try.prog 34 #[.slice A n c, .func (.func 35) #[] #[.pointer (some ⟨gx, 0, none⟩)]] w (RetF15 B w (xs.filter (fun x => !p x))) := by
  have HP : Hid (RetF15 B w (xs.filter (fun x => !p x)) = fun e w' => ∃ A c, e = .returned (.slice A (xs.filter (fun x => !p x)).length c) ∧ Rd w' w'.heap.size A (xs.filter (fun x => !p x)) ∧ Below B w w') := Lib.hid rfl
  have HI := Lib.hid (idx15a A xs n c gx w.heap.size w hl (rd15_own ho hl) hn (Nat.le_refl _) p (fun W hW => hcl W (hW.mono hB)))
  have HL := Lib.hid hl
  have HO := Lib.hid ho
  have HC := Lib.hid hcl
  have hcap := own14_cap ho
  clear hl ho hcl
  go_enter Try.func34, Try.ntmps34
  go_wp2_with fail
  refine HI.out.mono ?_
  rintro e w1 ⟨r, rfl, hf, hb1⟩
  clear HI
  rcases hf with ⟨k, h1, rfl, h2, h3⟩ | ⟨rfl, h2⟩
  · obtain ⟨g, hA, hgB⟩ : ∃ g, A = some ⟨g, 0, none⟩ ∧ B ≤ g := by
      rcases HO.out.2 with ⟨_, h0⟩ | ⟨g, cap, cur, hv, hg, _⟩
      · omega
      · injection hv with hA
        exact ⟨g, hA, hg⟩
    subst hA
    have hi1 : Ib13 w1 g n (nth xs) := (Ib13.of_own HO.out HL.out).below hb1 (HO.out.lt g rfl).2
    have HD0 : Hid (Df15 w B g n xs p k (k + 1) w1) := Lib.hid (by
      have hk := HL.out
      have e1 : (xs.take (k + 1)).filter (fun x => !p x) = xs.take k := by
        rw [filt15_next (by omega), filt15_head (by omega) (fun t ht => by rw [h3 t ht]; rfl), h2]
        simp
      refine ⟨hb1.mono hB, by rw [e1, List.length_take]; omega, nth xs, hi1, fun t ht => ?_, fun t _ _ => rfl⟩
      rw [e1, nth15_take ht])
    have e0 : ¬ (k : Int) = -1 := by omega
    have e1 : ((k : Int) == -1) = false := by simp [e0]
    obtain ⟨j0, hj0⟩ : ∃ j0, k + 1 = j0 := ⟨_, rfl⟩
    have hw0 : IntKind.i64.wrap ((k : Int) + 1) = ((j0 : Nat) : Int) := by rw [IntKind.wrap_i64]; omega
    rw [hj0] at HD0
    have HWD := Lib.hid (show k < j0 ∧ j0 ≤ n by omega)
    clear hi1 h2 h3 hb1 hj0
    go_wp2_with fail
    go_loopw [5, 6] (fun i j wr => ∃ k jj : Nat, i = .int .i64 (k : Int) ∧ j = .int .i64 (jj : Int) ∧ k < jj ∧ jj ≤ n ∧ Hid (Df15 w B g n xs p k jj wr)) (fun _ j _ => n - (intOf j).toNat)
    case atStart => exact ⟨k, j0, rfl, rfl, HWD.out.1, HWD.out.2, HD0⟩
    case round =>
      clear HD0 HWD h1
      obtain ⟨k, jj, rfl, rfl, hkj, hj, HD⟩ := hrel
      by_cases hjn : jj < n
      · obtain ⟨h, hib, hlo, hhi⟩ := HD.out.r
        have q0 := (hib.cells hjn).1
        rw [hhi jj (Nat.le_refl _) hjn] at q0
        obtain ⟨x, hx⟩ : ∃ x, nth xs jj = x := ⟨_, rfl⟩
        rw [hx] at q0
        obtain ⟨bp, hbp⟩ : ∃ y, p x = y := ⟨_, rfl⟩
        have hc := HC.out _ HD.out.b x (by rw [← hx, nth_in (by have := HL.out; omega)]; exact List.getElem_mem _)
        rw [hbp] at hc
        have HCK := Lib.hid hc
        have HX : Hid ((xs.take (jj + 1)).filter (fun x => !p x) = (xs.take jj).filter (fun x => !p x) ++ if bp then [] else [x]) := Lib.hid (by
          rw [filt15_next (by have := HL.out; omega), hx, hbp]
          cases bp <;> rfl)
        have HIB := Lib.hid hib
        have HLO := Lib.hid hlo
        have HHI := Lib.hid hhi
        have HGW := HIB.out.lt
        have i0 : (0 : Int) ≤ (jj : Int) := by omega
        have i1 : (jj : Int) < (n : Int) := by omega
        have i2 : (0 : Int) ≤ (k : Int) := by omega
        have i3 : (k : Int) < (n : Int) := by omega
        clear hx hbp hc hib hlo hhi
        cases bp with
        | true =>
          go_wp2_with fail
          refine HCK.out.mono ?_
          rintro e w2 ⟨rfl, hb2⟩
          have HD2 : Hid (Df15 w B g n xs p k (jj + 1) w2) := Lib.hid (by
            have hX := HX.out
            simp only [if_true, List.append_nil] at hX
            refine ⟨HD.out.b.trans (hb2.mono (by have := HD.out.b.size; omega)), by rw [hX]; exact HD.out.l, h, HIB.out.below hb2 HGW, ?_, fun t h1 h2 => HHI.out t (by omega) h2⟩
            rw [hX]
            exact HLO.out)
          clear HCK hb2 HIB HLO HHI HX HD
          go_wp2_with fail
          go_roundw
          case rel => exact ⟨k, jj + 1, rfl, by go_num, by omega, by omega, HD2⟩
          case measure => simp [intOf]; omega
        | false =>
          go_wp2_with fail
          refine HCK.out.mono ?_
          rintro e w2 ⟨rfl, hb2⟩
          have hi2 := HIB.out.below hb2 HGW
          have f2 := (hi2.cells (k := k) (by omega)).2
          have c2 := (hi2.cells (k := k) (by omega)).1
          have HD2 : Hid (Df15 w B g n xs p (k + 1) (jj + 1) (w2.setCell ⟨g, k, none⟩ (.int .i64 (x : Int)))) := Lib.hid (by
            have hX := HX.out
            simp only [Bool.false_eq_true, if_false] at hX
            refine ⟨(HD.out.b.trans (hb2.mono (by have := HD.out.b.size; omega))).setCell hgB _, by rw [hX, List.length_append, HD.out.l]; rfl, upd h k x, hi2.put (by omega) x, fun t ht => ?_, fun t h1 h2 => ?_⟩
            · rw [hX]
              by_cases htk : t = k
              · subst htk
                rw [upd_at, nth15_at HD.out.l]
              · rw [upd_far _ _ htk, nth15_low (by rw [HD.out.l]; omega)]
                exact HLO.out t (by omega)
            · rw [upd_far _ _ (by omega)]
              exact HHI.out t (by omega) h2)
          clear HCK hb2 HIB HLO HHI HX HD hi2
          go_wp2_with fail
          go_roundw
          case rel => exact ⟨k + 1, jj + 1, by go_num, by go_num, by omega, by omega, HD2⟩
          case measure => simp [intOf]; omega
      · obtain rfl : jj = n := by omega
        have i1 : ¬ (jj : Int) < (jj : Int) := by omega
        obtain ⟨h, hib, hlo, _⟩ := HD.out.r
        have hfl := HD.out.l
        have htk : xs.take jj = xs := List.take_of_length_le (by have := HL.out; omega)
        rw [htk] at hlo hfl
        obtain ⟨B', hcut, hB'⟩ := cutb15 g jj c k (by omega) hcap
        obtain ⟨w3, hclr, hi3, hg3⟩ := clear15 hib (k := k) (by omega) B' (c - k) hB'
        have HB3 : Hid (Below B w w3) := Lib.hid (HD.out.b.grown hg3 (by have := HD.out.b.size; omega) (fun r hr => by cases hr; exact hgB))
        have HRD : Hid (Rd w3 w3.heap.size (some ⟨g, 0, none⟩) (xs.filter (fun x => !p x))) := Lib.hid (by
          have h5 := hi3
          rw [← hfl] at h5
          exact h5.rd (fun t ht => (hlo t (by omega)).symm))
        have HFL := Lib.hid hfl
        have i5 : (0 : Int) ≤ (k : Int) := by omega
        have i6 : (k : Int) ≤ (c : Int) := by omega
        clear hib hlo hfl htk hi3 hg3 HD hB'
        go_wp2_with fail
        go_ret
        rw [HP.out]
        exact ⟨some ⟨g, 0, none⟩, c, by rw [HFL.out]; rfl, HRD.out, HB3.out⟩
  · have HF : Hid (xs.filter (fun x => !p x) = xs) := Lib.hid (by
      rw [List.filter_eq_self]
      intro x hx
      obtain ⟨t, ht, rfl⟩ := List.getElem_of_mem hx
      rw [← nth_in ht, h2 t (by have := HL.out; omega)]
      rfl)
    have HR : Hid (Rd w1 w1.heap.size A xs) := Lib.hid ((rd15_own HO.out HL.out).below hb1 (Nat.le_refl _) |>.more hb1.size)
    have HB1 := Lib.hid (hb1.mono hB)
    clear h2 hb1
    go_wp2_with fail
    go_ret
    rw [HP.out, HF.out]
    exact ⟨A, c, by rw [HL.out]; rfl, HR.out, HB1.out⟩
/-- The used ones of an order. -/
def ord15 (S : Sv14) (os : List Nat) : List Nat := os.filter (fun x => us14 usC S.C (x : Int))
set_option maxHeartbeats 4000000 in
theorem order15 (v : Value) (S : Sv14) (os : List Nat) (w : World) (h : St14 w v S) (hd : Done13 (Ca15 S) S.C.length os) (hf : os.length = S.C.length) :
    Calls Try.prog 11 #[v] w (RetR15 w (ord15 S os)) := by
  obtain ⟨A0, A1, A2, A3, A4, n0, n1, n2, n3, n4, c0, c1, c2, c3, c4, sq, rfl, hs⟩ := h
  have HP : Hid (RetR15 w (ord15 S os) = fun e w' => ∃ A c, e = .returned (.slice A (ord15 S os).length c) ∧ Rd w' w'.heap.size A (ord15 S os) ∧ Below w.heap.size w w') := Lib.hid rfl
  have HCA := Lib.hid (fun W (h : Bx14 w S A0 A1 A2 A3 A4 n0 n1 n2 n3 n4 c0 c1 c2 c3 c4 sq W) => coinArrows14 _ S W h.st)
  have hl0 := hs.l0
  have hm0 := hs.m0
  have HLA : Hid ((cArr14 S S.T.length).length ≤ 1000000) := Lib.hid (by have := cArr14_len S S.T.length; have := hs.l1; have := hs.m1; omega)
  have HOR := Lib.hid (fun W Ad c (hr : Aq W W.heap.size Ad (cArr14 S S.T.length)) => dorder13_any (n0 : Int) n0 (by unfold nn13; omega) Ad _ _ c os W rfl hr HLA.out (by rw [← hl0]; exact hd))
  have hfn : decide (os.length = n0) = true := by rw [← hl0]; simpa using hf
  have HFN := Lib.hid (show os.length = n0 by rw [← hl0]; exact hf)
  have hx0 := Bx14.new hs
  have hxn := hx0.step (Below.refl _ _).drew
  obtain ⟨W1, hW1⟩ : ∃ W, w.alloc (.cells #[.slice A0 n0 c0, .slice A1 n1 c1, .slice A2 n2 c2, .slice A3 n3 c3, .slice A4 n4 c4, .int .i64 sq] 28) = W := ⟨_, rfl⟩
  rw [hW1] at hx0 hxn
  have HXN := Lib.hid hxn
  clear hs hx0 hxn hd hf hl0
  go_enter Try.func11, Try.ntmps11
  obtain ⟨wn, hwn⟩ : ∃ W, W1.drew = W := ⟨_, rfl⟩
  rw [hwn] at HXN
  go_wp2_with fail
  refine wp_region_held_drew (S := Bx14 w S A0 A1 A2 A3 A4 n0 n1 n2 n3 n4 c0 c1 c2 c3 c4 sq) (by kernel_rfl) (by rw [hwn]; exact HXN.out) (fun hHeld => ?_)
  rw [hwn] at hHeld ⊢
  clear hwn
  have HBS := HXN
  refine tk 0 (v := ?_) (fun W hS => ?_) ?_
  rotate_left
  · (go_simp; try with_reducible rfl)
  (try dsimp only [Act.put]); try simp only [pt1, pt2, pt3]
  refine tk 1 (v := ?_) (fun W hS => ?_) ?_
  rotate_left
  · try dsimp only at hS
    have z0 := hS.x.cell 0
    go_simp
    try with_reducible rfl
  (try dsimp only [Act.put]); try simp only [pt1, pt2, pt3]
  refine tk 2 (v := ?_) (fun W hS => ?_) ?_
  rotate_left
  · (go_simp; try with_reducible rfl)
  (try dsimp only [Act.put]); try simp only [pt1, pt2, pt3]
  refine tk 3 (v := ?_) (fun W hS => ?_) ?_
  rotate_left
  · try dsimp only at hS
    have z0 := hS.x.cell 0
    have z1 := hS.x.cell 1
    have z2 := hS.x.cell 2
    have z3 := hS.x.cell 3
    have z4 := hS.x.cell 4
    have z5 := hS.x.cell 5
    go_simp
    try with_reducible rfl
  (try dsimp only [Act.put]); try simp only [pt1, pt2, pt3]
  refine rdy 4 (fun K hK => ?_)
  have HBS0 := HBS
  go_simp
  refine (HCA.out _ HBS0.out).mono ?_
  rintro e wn ⟨Ac, cc, rfl, hqa, hb⟩
  have HBS := Lib.hid (HBS0.out.step hb)
  have HQA := Lib.hid hqa
  clear hqa
  clear hb HBS0
  refine hK.out _ _ HBS.out (fun hHeld => ?_)
  clear hK K
  (try dsimp only [Act.put]); try simp only [pt1, pt2, pt3]
  refine rdy 5 (fun K hK => ?_)
  have HBS0 := HBS
  go_simp
  refine (HOR.out _ Ac cc HQA.out).mono ?_
  rintro e wm ⟨vo, rfl, ho, _, hb⟩
  obtain ⟨WO, hWO⟩ : ∃ W, W = wn := ⟨_, rfl⟩
  rw [← hWO] at HBS0 hb ho
  have HBS := Lib.hid (HBS0.out.step hb)
  have HQO := Lib.hid (ho HFN.out)
  have HB5 := Lib.hid hb
  have HBO := Lib.hid HBS0.out.b
  have HX5 := HBS0
  clear hb HBS0 HQA ho hWO
  refine hK.out _ _ HBS.out (fun hHeld => ?_)
  clear hK K
  (try dsimp only [Act.put]); try simp only [pt1, pt2, pt3]
  refine tk 6 (v := ?_) (fun W hS => ?_) ?_
  rotate_left
  · (go_simp; try with_reducible rfl)
  (try dsimp only [Act.put]); try simp only [pt1, pt2, pt3]
  refine tk 7 (v := ?_) (fun W hS => ?_) ?_
  rotate_left
  · (go_simp; try with_reducible rfl)
  (try dsimp only [Act.put]); try simp only [pt1, pt2, pt3]
  refine tk 8 (v := ?_) (fun W hS => ?_) ?_
  rotate_left
  · (go_simp; try with_reducible rfl)
  (try dsimp only [Act.put]); try simp only [pt1, pt2, pt3]
  refine rdy 9 (fun K hK => ?_)
  go_simp
  refine hK.out _ _ HBS.out (fun hHeld => ?_)
  clear hK K
  (try dsimp only [Act.put]); try simp only [pt1, pt2, pt3]
  refine rdy 10 (fun K hK => ?_)
  go_simp
  refine hK.out _ _ HBS.out (fun hHeld => ?_)
  clear hK K
  (try dsimp only [Act.put]); try simp only [pt1, pt2, pt3]
  refine wpAnyH_done (by kernel_rfl) ?_ _
  clear hHeld
  obtain ⟨Ao, co, rfl, hown⟩ := HQO.out
  have HOW := Lib.hid hown
  clear hown
  have HDL := Lib.hid (del15 Ao os os.length co w.heap.size WO.heap.size wm rfl HOW.out (by have := HFN.out; omega) HB5.out.size (fun (x : Nat) => !us14 usC S.C (x : Int)) (fun W hW x _ => ordc15 (x : Int) w.heap.size S A0 A1 A2 A3 A4 n0 n1 n2 n3 n4 c0 c1 c2 c3 c4 sq W _ (HX5.out.x.below (HB5.out.trans hW) HX5.out.x.lt) (HX5.out.s.step (HB5.out.trans hW)) rfl))
  clear HX5 HBS
  go_wp2_with fail
  refine HDL.out.mono ?_
  rintro e w7 ⟨Af, cf, rfl, hrd, hb7⟩
  have HB7 := Lib.hid (HBO.out.trans ((HB5.out.trans hb7).mono HBO.out.size))
  have HF : Hid (os.filter (fun (x : Nat) => !!us14 usC S.C (x : Int)) = ord15 S os) := Lib.hid (by simp [ord15])
  rw [HF.out] at hrd ⊢
  have HRD := Lib.hid hrd
  clear hrd hb7 HDL
  go_wp2_with fail
  go_ret
  rw [HP.out]
  exact ⟨Af, cf, rfl, HRD.out, HB7.out⟩
end Go.Proofs.Ytljpgfnjaagkaaa
namespace Go.Proofs.Ytljpgfnjaagkaaa
open Go.RowKit
set_option maxRecDepth 100000
/-- Between two rounds: a boxed state, and a row of ints from block L on. -/
structure Ti15 (w : World) (L : Nat) (S : Sv14) (A0 A1 A2 A3 A4 : Option Addr) (n0 n1 n2 n3 n4 c0 c1 c2 c3 c4 : Nat) (sq : Int) (A : Option Addr) (m c : Nat) (xs : List Nat) (W : World) : Prop where
  b : Bx14 w S A0 A1 A2 A3 A4 n0 n1 n2 n3 n4 c0 c1 c2 c3 c4 sq W
  o : W.ownsRow L 3 1 (.slice A m c) m (ints xs)
  l : xs.length = m
  h : w.heap.size < L
  t : L ≤ W.heap.size
  s : SA14 w S A0 A1 A2 A3 A4 n0 n1 n2 n3 n4 c0 c1 c2 c3 c4 sq
theorem Ti15.step {w : World} {L : Nat} {S : Sv14} {A0 A1 A2 A3 A4 : Option Addr} {n0 n1 n2 n3 n4 c0 c1 c2 c3 c4 : Nat} {sq : Int} {A : Option Addr} {m c : Nat} {xs : List Nat} {W W' : World} (h : Ti15 w L S A0 A1 A2 A3 A4 n0 n1 n2 n3 n4 c0 c1 c2 c3 c4 sq A m c xs W) (hb : Below W.heap.size W W') : Ti15 w L S A0 A1 A2 A3 A4 n0 n1 n2 n3 n4 c0 c1 c2 c3 c4 sq A m c xs W' :=
  ⟨h.b.step hb, own7_keep h.o hb, h.l, h.h, Nat.le_trans h.t hb.size, h.s⟩
theorem Ti15.congr {w : World} {L : Nat} {S : Sv14} {A0 A1 A2 A3 A4 : Option Addr} {n0 n1 n2 n3 n4 c0 c1 c2 c3 c4 : Nat} {sq : Int} {A : Option Addr} {m c : Nat} {xs ys : List Nat} {W : World} (h : Ti15 w L S A0 A1 A2 A3 A4 n0 n1 n2 n3 n4 c0 c1 c2 c3 c4 sq A m c xs W) (e : xs = ys) : Ti15 w L S A0 A1 A2 A3 A4 n0 n1 n2 n3 n4 c0 c1 c2 c3 c4 sq A m c ys W := e ▸ h
theorem Ti15.start {w : World} {L : Nat} {S : Sv14} {A0 A1 A2 A3 A4 : Option Addr} {n0 n1 n2 n3 n4 c0 c1 c2 c3 c4 : Nat} {sq : Int} {W : World} (hs : SA14 w S A0 A1 A2 A3 A4 n0 n1 n2 n3 n4 c0 c1 c2 c3 c4 sq) (h : Bx14 w S A0 A1 A2 A3 A4 n0 n1 n2 n3 n4 c0 c1 c2 c3 c4 sq W) (hL : w.heap.size < L) (hW : L ≤ W.heap.size) : Ti15 w L S A0 A1 A2 A3 A4 n0 n1 n2 n3 n4 c0 c1 c2 c3 c4 sq none 0 0 [] W := ⟨h, World.ownsRow_nil _ _ _ _, rfl, hL, hW, hs⟩
theorem Ti15.rd {w : World} {L : Nat} {S : Sv14} {A0 A1 A2 A3 A4 : Option Addr} {n0 n1 n2 n3 n4 c0 c1 c2 c3 c4 : Nat} {sq : Int} {A : Option Addr} {m c : Nat} {xs : List Nat} {W : World} (h : Ti15 w L S A0 A1 A2 A3 A4 n0 n1 n2 n3 n4 c0 c1 c2 c3 c4 sq A m c xs W) : Rd W W.heap.size A xs := rd15_own h.o h.l
/-- A number is appended. -/
theorem Ti15.push {w : World} {L : Nat} {S : Sv14} {A0 A1 A2 A3 A4 : Option Addr} {n0 n1 n2 n3 n4 c0 c1 c2 c3 c4 : Nat} {sq : Int} {A : Option Addr} {m c : Nat} {xs : List Nat} {W : World} (h : Ti15 w L S A0 A1 A2 A3 A4 n0 n1 n2 n3 n4 c0 c1 c2 c3 c4 sq A m c xs W) (x : Nat) (hm : m ≤ 5000) :
    ∃ Az cz W2, (Builtin.append_ #[26, 26] 26 #[.slice A m c, .slice (some ⟨W.heap.size, 0, none⟩) 1 1]).run Try.prog (W.alloc (.cells #[.int .i64 (x : Int)] 3)) = .ok (.slice Az (m + 1) cz) W2 ∧ Ti15 w L S A0 A1 A2 A3 A4 n0 n1 n2 n3 n4 c0 c1 c2 c3 c4 sq Az (m + 1) cz (xs ++ [x]) W2 ∧ Below L W W2 := by
  have hbz := b1' W (.cells #[.int .i64 (x : Int)] 3)
  have hkz := Blk.new W 3 #[.int .i64 (x : Int)]
  have h1 := h.step hbz
  have hsy : (W.alloc (.cells #[.int .i64 (x : Int)] 3)).heap.size = W.heap.size + 1 := by simp
  obtain ⟨Y, hY⟩ : ∃ Y, W.alloc (.cells #[.int .i64 (x : Int)] 3) = Y := ⟨_, rfl⟩
  rw [hY] at hbz hkz h1 hsy ⊢
  have hrv : Rv Y Y.heap.size (some ⟨W.heap.size, 0, none⟩) [.int .i64 (x : Int)] := fun _ => ⟨W.heap.size, 0, rfl, by omega, fun j v hj => by rw [Nat.zero_add, hkz.cell]; simpa using hj⟩
  obtain ⟨Az, cz, W2, hrun, hown, hg⟩ := run_append_14 (P := Try.prog) Y L 26 26 3 _ 1 8 Try.underlying26 info_int11 rfl (by omega) (by omega) _ m _ h1.o Y.heap.size (some ⟨W.heap.size, 0, none⟩) [.int .i64 (x : Int)] 1 1 rfl hrv (by simp [Value.oneCell']) (by omega) h1.t
  have ht := h.t
  have hlt := h.h
  have hY2 : Below L Y W2 := (Below.refl L Y).grown hg h1.t (fun r hr => (h1.o.lt r hr).1)
  have hW2 : Below L W W2 := (hbz.mono ht).trans hY2
  have hB : Below w.heap.size w W2 := h.b.b.trans (hW2.mono (by omega))
  refine ⟨Az, cz, W2, hrun, ⟨⟨hB, h.b.x.below hW2 hlt, h.s.step hB⟩, ?_, by simp [h.l], hlt, by have := hW2.size; omega, h.s⟩, hW2⟩
  rw [ints_append]
  exact hown
/-- Which tickets. -/
def tks15 (S : Sv14) (p : Tk14 → Bool) (n : Nat) : List Nat := all11 (fun j => (gt14 S.T j).u && p (gt14 S.T j)) n
theorem tks15_len (S : Sv14) (p : Tk14 → Bool) (n : Nat) : (tks15 S p n).length ≤ n := all11_len _ _
theorem tks15_mem {S : Sv14} {p : Tk14 → Bool} {n j : Nat} : j ∈ tks15 S p n ↔ j < n ∧ (gt14 S.T j).u = true ∧ p (gt14 S.T j) = true := by
  unfold tks15 all11
  rw [List.mem_filter, List.mem_range, Bool.and_eq_true]
def fnd15 (k c : Int) (t : Tk14) : Bool := decide (t.k = k ∧ t.t = c)
set_option maxHeartbeats 2000000 in
theorem fuc15 (xu : Bool) (xc xa xk xt : Int) (xo : Bool) (gk gt : Nat) (kd d : Int) (w : World) (hk0 : w.cell? ⟨gk, 0, none⟩ = some (.int .i64 kd)) (ht0 : w.cell? ⟨gt, 0, none⟩ = some (.int .i64 d)) :
    Calls Try.prog 58 #[.agg #[.bool xu, .int .i64 xc, .int .i64 xa, .int .i64 xk, .int .i64 xt, .bool xo], .pointer (some ⟨gk, 0, none⟩), .pointer (some ⟨gt, 0, none⟩)] w fun e w' => e = .returned (.bool (fnd15 kd d ⟨xu, xc, xa, xk, xt, xo⟩)) ∧ Below w.heap.size w w' := by
  have hk := Blk.new w 40 #[.bool xu, .int .i64 xc, .int .i64 xa, .int .i64 xk, .int .i64 xt, .bool xo]
  have hb1 := b1' w (.cells #[.bool xu, .int .i64 xc, .int .i64 xa, .int .i64 xk, .int .i64 xt, .bool xo] 40)
  have l0 := (hb1.cell (p := ⟨gk, 0, none⟩) (World.block_lt_of_cell? w _ hk0)).trans hk0
  have l1 := (hb1.cell (p := ⟨gt, 0, none⟩) (World.block_lt_of_cell? w _ ht0)).trans ht0
  have c3 := hk.cell 3
  have c4 := hk.cell 4
  clear hk hk0 ht0
  by_cases hkd : xk = kd
  · subst hkd
    have HE : Hid (fnd15 xk d ⟨xu, xc, xa, xk, xt, xo⟩ = (xt == d)) := Lib.hid (by unfold fnd15; rw [Bool.eq_iff_iff]; simp)
    go_enter Try.func58, Try.ntmps58
    go_wp2_with fail
    go_ret
    exact ⟨by rw [HE.out]; rfl, hb1⟩
  · have HE : Hid (fnd15 kd d ⟨xu, xc, xa, xk, xt, xo⟩ = false) := Lib.hid (by unfold fnd15; simp [hkd])
    have hkb : (xk == kd) = false := by simpa using hkd
    go_enter Try.func58, Try.ntmps58
    go_wp2_with fail
    go_ret
    exact ⟨by rw [HE.out]; rfl, hb1⟩
set_option maxHeartbeats 4000000 in
theorem tickets15f (v : Value) (S : Sv14) (gk gt : Nat) (w : World) (h : St14 w v S) (p : Tk14 → Bool)
    (hcl : ∀ W, Below w.heap.size w W → ∀ xu xc xa xk xt xo, Calls Try.prog 58 #[.agg #[.bool xu, .int .i64 xc, .int .i64 xa, .int .i64 xk, .int .i64 xt, .bool xo], .pointer (some ⟨gk, 0, none⟩), .pointer (some ⟨gt, 0, none⟩)] W fun e w' => e = .returned (.bool (p ⟨xu, xc, xa, xk, xt, xo⟩)) ∧ Below W.heap.size W w') :
    Calls Try.prog 39 #[v, .func (.func 58) #[] #[.pointer (some ⟨gk, 0, none⟩), .pointer (some ⟨gt, 0, none⟩)]] w (RetR15 w (tks15 S p S.T.length)) := by
  obtain ⟨A0, A1, A2, A3, A4, n0, n1, n2, n3, n4, c0, c1, c2, c3, c4, sq, rfl, hs⟩ := h
  have HP : Hid (RetR15 w (tks15 S p S.T.length) = fun e w' => ∃ A c, e = .returned (.slice A (tks15 S p n1).length c) ∧ Rd w' w'.heap.size A (tks15 S p n1) ∧ Below w.heap.size w w') := Lib.hid (by rw [hs.l1]; rfl)
  have HX0 : Hid (Ti15 w (w.heap.size + 1) S A0 A1 A2 A3 A4 n0 n1 n2 n3 n4 c0 c1 c2 c3 c4 sq none 0 0 (tks15 S p 0) (w.alloc (.cells #[.slice A0 n0 c0, .slice A1 n1 c1, .slice A2 n2 c2, .slice A3 n3 c3, .slice A4 n4 c4, .int .i64 sq] 28))) := Lib.hid (Ti15.start hs (Bx14.new hs) (by omega) (by simp))
  have HC := Lib.hid hcl
  have HL1 := Lib.hid hs.l1
  have hnb := hs.m1
  have t1 := HX0.out.b.x.cell 1
  clear hs hcl
  go_enter Try.func39, Try.ntmps39
  go_wp2_with fail
  clear t1
  go_loopw [4, 10] (fun v i wr => ∃ (k : Nat) (A : Option Addr) (m c : Nat), v = .slice A m c ∧ i = .int .i64 (k : Int) ∧ k ≤ n1 ∧ Hid (Ti15 w (w.heap.size + 1) S A0 A1 A2 A3 A4 n0 n1 n2 n3 n4 c0 c1 c2 c3 c4 sq A m c (tks15 S p k) wr)) (fun _ i _ => n1 - (intOf i).toNat)
  case atStart => exact ⟨0, none, 0, 0, rfl, rfl, by omega, HX0⟩
  case round =>
    obtain ⟨k, A, m, c, rfl, rfl, hk, HW⟩ := hrel
    by_cases hkn : k < n1
    · obtain ⟨a, of, hA, hab, hq⟩ := Lq.at_ len14T (by omega) HW.out.b.s.r1 (show k < S.T.length by have := HL1.out; omega)
      obtain ⟨x, hx⟩ : ∃ x, gt14 S.T k = x := ⟨_, rfl⟩
      rw [hx] at hq
      obtain ⟨xu, xc, xa, xk, xt, xo⟩ := x
      have e0 : wr.cell? ⟨a, of + k * 6, none⟩ = some (.bool xu) := hq 0 _ rfl
      have e1 : wr.cell? ⟨a, of + k * 6 + 1, none⟩ = some (.int .i64 xc) := hq 1 _ rfl
      have e2 : wr.cell? ⟨a, of + k * 6 + 2, none⟩ = some (.int .i64 xa) := hq 2 _ rfl
      have e3 : wr.cell? ⟨a, of + k * 6 + 3, none⟩ = some (.int .i64 xk) := hq 3 _ rfl
      have e4 : wr.cell? ⟨a, of + k * 6 + 4, none⟩ = some (.int .i64 xt) := hq 4 _ rfl
      have e5 : wr.cell? ⟨a, of + k * 6 + 5, none⟩ = some (.bool xo) := hq 5 _ rfl
      have i0 : (0 : Int) ≤ (k : Int) := by omega
      have i1 : (k : Int) < (n1 : Int) := by omega
      have HV := Lib.hid (Ti15.step HW.out (b1' wr (.cells #[.bool xu, .int .i64 xc, .int .i64 xa, .int .i64 xk, .int .i64 xt, .bool xo] 40)))
      have hv := Blk.new wr 40 #[.bool xu, .int .i64 xc, .int .i64 xa, .int .i64 xk, .int .i64 xt, .bool xo]
      have v0 := hv.cell 0
      have v1 := hv.cell 1
      have v2 := hv.cell 2
      have v3 := hv.cell 3
      have v4 := hv.cell 4
      have v5 := hv.cell 5
      have HVB := Lib.hid hv
      have HNX : Hid (tks15 S p (k + 1) = tks15 S p k ++ if (xu && p ⟨xu, xc, xa, xk, xt, xo⟩) then [k] else []) := Lib.hid (by
        have h := all11_next (fun j => (gt14 S.T j).u && p (gt14 S.T j)) k
        rw [hx] at h
        exact h)
      obtain ⟨X, hX⟩ : ∃ X, wr.alloc (.cells #[.bool xu, .int .i64 xc, .int .i64 xa, .int .i64 xk, .int .i64 xt, .bool xo] 40) = X := ⟨_, rfl⟩
      rw [hX] at HV HVB v0 v1 v2 v3 v4 v5
      have hmk : m ≤ k := by rw [← HW.out.l]; exact tks15_len S p k
      clear hv hq hx hab
      subst hA
      cases xu with
      | false =>
        have HN := Lib.hid (HV.out.congr (ys := tks15 S p (k + 1)) (by rw [HNX.out]; simp))
        go_wp2_with fail
        go_roundw
        case rel => exact ⟨k + 1, A, m, c, rfl, by go_num, by omega, HN⟩
        case measure => simp [intOf]; omega
      | true =>
        obtain ⟨bp, hbp⟩ : ∃ y, p ⟨true, xc, xa, xk, xt, xo⟩ = y := ⟨_, rfl⟩
        have hc := HC.out X HV.out.b.b true xc xa xk xt xo
        rw [hbp] at hc HNX
        have HCK := Lib.hid hc
        clear hbp hc
        cases bp with
        | false =>
          go_wp2_with fail
          refine HCK.out.mono ?_
          rintro e w2 ⟨rfl, hb2⟩
          have HN := Lib.hid ((HV.out.step hb2).congr (ys := tks15 S p (k + 1)) (by rw [HNX.out]; simp))
          clear HCK hb2
          go_wp2_with fail
          go_roundw
          case rel => exact ⟨k + 1, A, m, c, rfl, by go_num, by omega, HN⟩
          case measure => simp [intOf]; omega
        | true =>
          go_wp2_with fail
          refine HCK.out.mono ?_
          rintro e w2 ⟨rfl, hb2⟩
          obtain ⟨Az, cz, W2, hrun, har, _⟩ := (HV.out.step hb2).push k (by omega)
          have HRUN := Lib.hid hrun
          have HAR := Lib.hid (har.congr (ys := tks15 S p (k + 1)) (by rw [HNX.out]; simp))
          clear HCK hb2 hrun har
          go_wp2_with (at_builtin; go_loud (refine wpList_append_14 _ rfl (.tmp 22) (.tmp 24) 26 rfl _ _ _ _ rfl rfl HRUN.out ?_))
          go_roundw
          case rel => exact ⟨k + 1, Az, m + 1, cz, rfl, by go_num, by omega, HAR⟩
          case measure => simp [intOf]; omega
    · obtain rfl : k = n1 := by omega
      have HL := Lib.hid HW.out.l
      have h1 : ¬ (k : Int) < (k : Int) := by omega
      go_wp2_with fail
      go_ret
      rw [HP.out]
      exact ⟨A, c, by rw [HL.out]; rfl, HW.out.rd, HW.out.b.b⟩
def bck15 (S : Sv14) (c : Int) : List Nat := if us14 usC S.C c = true then tks15 S (fnd15 2 c) S.T.length else []
set_option maxHeartbeats 4000000 in
theorem funding15 (v : Value) (S : Sv14) (kd c : Int) (w : World) (h : St14 w v S) :
    Calls Try.prog 41 #[v, .int .i64 kd, .int .i64 c] w (RetR15 w (tks15 S (fnd15 kd c) S.T.length)) := by
  obtain ⟨A0, A1, A2, A3, A4, n0, n1, n2, n3, n4, c0, c1, c2, c3, c4, sq, rfl, hs⟩ := h
  have hx0 := Bx14.new hs
  have hxn := hx0.step (Below.refl _ _).drew
  obtain ⟨W1, hW1⟩ : ∃ W, w.alloc (.cells #[.slice A0 n0 c0, .slice A1 n1 c1, .slice A2 n2 c2, .slice A3 n3 c3, .slice A4 n4 c4, .int .i64 sq] 28) = W := ⟨_, rfl⟩
  rw [hW1] at hx0 hxn
  have hb2 := b1' W1 (.cells #[.int .i64 kd] 3)
  have hk2 := Blk.new W1 3 #[.int .i64 kd]
  have hx2 := hx0.step hb2
  have hz1 : W1.heap.size = w.heap.size + 1 := by rw [← hW1]; simp
  rw [hz1] at hk2
  have hz2 : (W1.alloc (.cells #[.int .i64 kd] 3)).heap.size = w.heap.size + 2 := by simp [hz1]
  obtain ⟨W2, hW2⟩ : ∃ W, W1.alloc (.cells #[.int .i64 kd] 3) = W := ⟨_, rfl⟩
  rw [hW2] at hb2 hk2 hx2 hz2
  have hb3 := b1' W2 (.cells #[.int .i64 c] 3)
  have hj3 := Blk.new W2 3 #[.int .i64 c]
  have hk3 := hk2.below hb3 hk2.lt
  have hx3 := hx2.step hb3
  rw [hz2] at hj3
  obtain ⟨W3, hW3⟩ : ∃ W, W2.alloc (.cells #[.int .i64 c] 3) = W := ⟨_, rfl⟩
  rw [hW3] at hb3 hj3 hk3 hx3
  have HT := Lib.hid (tickets15f _ S (w.heap.size + 1) (w.heap.size + 2) W3 hx3.st (fnd15 kd c) (fun W hW xu xc xa xk xt xo => fuc15 xu xc xa xk xt xo _ _ kd c W ((hk3.below hW hk3.lt).cell 0) ((hj3.below hW hj3.lt).cell 0)))
  have HX3 := Lib.hid hx3
  have x0 := hx3.x.cell 0
  have x1 := hx3.x.cell 1
  have x2 := hx3.x.cell 2
  have x3 := hx3.x.cell 3
  have x4 := hx3.x.cell 4
  have x5 := hx3.x.cell 5
  have HP : Hid (RetR15 w (tks15 S (fnd15 kd c) S.T.length) = fun e w' => ∃ A c2, e = .returned (.slice A (tks15 S (fnd15 kd c) S.T.length).length c2) ∧ Rd w' w'.heap.size A (tks15 S (fnd15 kd c) S.T.length) ∧ Below w.heap.size w w') := Lib.hid rfl
  clear hs hx0 hxn hb2 hk2 hx2 hb3 hj3 hk3 hx3
  go_enter Try.func41, Try.ntmps41
  go_wp2_with fail
  refine HT.out.mono ?_
  rintro e w4 ⟨A, c2, rfl, hr4, hb4⟩
  have HR4 := Lib.hid hr4
  have HB4 := Lib.hid (HX3.out.b.trans (hb4.mono HX3.out.b.size))
  clear HT hr4 hb4
  go_wp2_with fail
  go_ret
  rw [HP.out]
  exact ⟨A, c2, rfl, HR4.out, HB4.out⟩
set_option maxHeartbeats 4000000 in
theorem backing15 (v : Value) (S : Sv14) (c : Int) (w : World) (h : St14 w v S) :
    Calls Try.prog 17 #[v, .int .i64 c] w (RetR15 w (bck15 S c)) := by
  obtain ⟨A0, A1, A2, A3, A4, n0, n1, n2, n3, n4, c0, c1, c2, c3, c4, sq, rfl, hs⟩ := h
  have hx0 := Bx14.new hs
  have hxn := hx0.step (Below.refl _ _).drew
  obtain ⟨W1, hW1⟩ : ∃ W, w.alloc (.cells #[.slice A0 n0 c0, .slice A1 n1 c1, .slice A2 n2 c2, .slice A3 n3 c3, .slice A4 n4 c4, .int .i64 sq] 28) = W := ⟨_, rfl⟩
  rw [hW1] at hx0 hxn
  obtain ⟨bc, hbc⟩ : ∃ b, us14 usC S.C c = b := ⟨_, rfl⟩
  have HCC := Lib.hid (coin14 _ S c bc W1 hx0.st hbc)
  have HX1 := Lib.hid hx0
  have x0 := hx0.x.cell 0
  have x1 := hx0.x.cell 1
  have x2 := hx0.x.cell 2
  have x3 := hx0.x.cell 3
  have x4 := hx0.x.cell 4
  have x5 := hx0.x.cell 5
  have HP : Hid (RetR15 w (bck15 S c) = fun e w' => ∃ A c2, e = .returned (.slice A (bck15 S c).length c2) ∧ Rd w' w'.heap.size A (bck15 S c) ∧ Below w.heap.size w w') := Lib.hid rfl
  have HE : Hid (bck15 S c = if bc then tks15 S (fnd15 2 c) S.T.length else []) := Lib.hid (by rw [bck15, hbc])
  clear hs hx0 hxn hbc
  go_enter Try.func17, Try.ntmps17
  go_wp2_with fail
  refine HCC.out.mono ?_
  rintro e w3 ⟨rfl, hb3⟩
  have HX3 := Lib.hid (HX1.out.step hb3)
  clear HCC hb3
  cases bc with
  | false =>
    go_wp2_with fail
    go_ret
    rw [HP.out, HE.out]
    exact ⟨none, 0, rfl, fun h => absurd rfl h, HX3.out.b⟩
  | true =>
    have y0 := HX3.out.x.cell 0
    have y1 := HX3.out.x.cell 1
    have y2 := HX3.out.x.cell 2
    have y3 := HX3.out.x.cell 3
    have y4 := HX3.out.x.cell 4
    have y5 := HX3.out.x.cell 5
    have HT := Lib.hid (funding15 _ S 2 c w3 HX3.out.st)
    go_wp2_with fail
    refine HT.out.mono ?_
    rintro e w4 ⟨A, c2, rfl, hr4, hb4⟩
    have HR4 := Lib.hid hr4
    have HB4 := Lib.hid (HX3.out.b.trans (hb4.mono HX3.out.b.size))
    clear HT hr4 hb4
    go_wp2_with fail
    go_ret
    rw [HP.out, HE.out]
    exact ⟨A, c2, rfl, HR4.out, HB4.out⟩
end Go.Proofs.Ytljpgfnjaagkaaa
namespace Go.Proofs.Ytljpgfnjaagkaaa
open Go.RowKit
set_option maxRecDepth 100000
theorem told15_pre {A : List (Nat × Nat)} {n : Nat} {os : List Nat} (h : Told13 A n os) (us : Nat → Bool) : ∀ k, k < (os.filter us).length → ∀ f, (f, nth (os.filter us) k) ∈ A → us f = true → f ∈ (os.filter us).take k := by
  induction h with
  | nil => intro k hk; simp at hk
  | @next os i h1 h2 h3 ih =>
    intro k hk f hf hu
    have e0 : (os ++ [i]).filter us = os.filter us ++ if us i then [i] else [] := by
      rw [List.filter_append]
      congr 1
      cases hi : us i <;> simp [hi]
    rw [e0] at hk
    rw [e0] at hf
    rw [e0]
    cases hi : us i with
    | false =>
      rw [hi] at hk hf
      simp only [Bool.false_eq_true, if_false, List.append_nil] at hk hf ⊢
      exact ih k hk f hf hu
    | true =>
      rw [hi] at hk hf
      simp only [if_true] at hk hf ⊢
      rcases Nat.lt_or_ge k (os.filter us).length with h | h
      · rw [nth15_low h] at hf
        rw [List.take_append_of_le_length (by omega)]
        exact ih k h f hf hu
      · obtain rfl : k = (os.filter us).length := by
          rw [List.length_append, List.length_singleton] at hk
          omega
        rw [nth15_at rfl] at hf
        rw [List.take_left]
        exact List.mem_filter.2 ⟨h2.2.2 f hf, hu⟩
theorem carr15_mem {S : Sv14} {a b : Int} : ∀ {n : Nat}, (a, b) ∈ cArr14 S n ↔ ∃ j, j < n ∧ (gt14 S.T j).u = true ∧ (gt14 S.T j).k = 2 ∧ (gt14 S.T j).c = a ∧ (gt14 S.T j).t = b
  | 0 => by simp [cArr14]
  | n + 1 => by
    rw [cArr14, List.mem_append, carr15_mem (n := n)]
    constructor
    · rintro (⟨j, h1, h2⟩ | h)
      · exact ⟨j, by omega, h2⟩
      · split at h
        · next h3 =>
          rw [List.mem_singleton] at h
          injection h with h4 h5
          exact ⟨n, by omega, h3.1, h3.2, h4.symm, h5.symm⟩
        · cases h
    · rintro ⟨j, h1, h2, h3, h4, h5⟩
      rcases (show j < n ∨ j = n by omega) with h6 | rfl
      · exact .inl ⟨j, h6, h2, h3, h4, h5⟩
      · right
        rw [if_pos ⟨h2, h3⟩, List.mem_singleton, h4, h5]
theorem ca15_mem {S : Sv14} {f x : Nat} : (f, x) ∈ Ca15 S ↔ (∃ j, Bck15 S x j ∧ (gt14 S.T j).c = (f : Int)) ∧ f < S.C.length ∧ x < S.C.length := by
  unfold Ca15
  rw [cut13_mem, carr15_mem]
  constructor
  · rintro ⟨⟨j, h1, h2, h3, h4, h5⟩, h6⟩
    exact ⟨⟨j, ⟨h1, h2, h3, h5⟩, h4⟩, h6⟩
  · rintro ⟨⟨j, ⟨h1, h2, h3, h5⟩, h4⟩, h6⟩
    exact ⟨⟨j, h1, h2, h3, h4, h5⟩, h6⟩
theorem us15_lt {S : Sv14} {i : Int} (h : us14 usC S.C i = true) : 0 ≤ i ∧ i < (S.C.length : Int) := Classical.byContradiction (fun hn => by rw [us14_off def14C hn] at h; cases h)
theorem bck15_mem {S : Sv14} {x : Nat} {j : Nat} (hx : us14 usC S.C (x : Int) = true) : j ∈ bck15 S (x : Int) ↔ Bck15 S x j := by
  rw [bck15, if_pos hx, tks15_mem, fnd15, decide_eq_true_iff]
  exact Iff.rfl
/-- Does a set of coins have a number? -/
def has15 (n : Nat) (T : Nat → Bool) (c : Int) : Bool := decide (0 ≤ c ∧ c < (n : Int)) && T c.toNat
theorem has15_in {n : Nat} {T : Nat → Bool} {c : Int} (h : 0 ≤ c ∧ c < (n : Int)) : has15 n T c = T c.toNat := by
  rw [has15, decide_eq_true h, Bool.true_and]
/-- Is a coin funded, and by tickets of the coins of a set alone? -/
def Wth15 (S : Sv14) (n : Nat) (T : Nat → Bool) (c : Int) : Prop := bck15 S c ≠ [] ∧ ∀ j, j ∈ bck15 S c → has15 n T (gt14 S.T j).c = true
/-- The own coins of c. -/
noncomputable def ownb15 (S : Sv14) (c : Int) (k : Nat) : Bool := decide (0 ≤ c) && own15b S c.toNat k
theorem ownb15_yes {S : Sv14} {c : Int} {k : Nat} : ownb15 S c k = true ↔ 0 ≤ c ∧ Own15 S c.toNat k := by
  rw [ownb15, Bool.and_eq_true, decide_eq_true_iff, own15b_yes]
theorem own15_used {S : Sv14} {c k : Nat} (h : Own15 S c k) : us14 usC S.C (k : Int) = true := by cases h <;> assumption
theorem ne15_nil {l : List Nat} : l ≠ [] ↔ ∃ j, j ∈ l := by
  cases l with
  | nil => simp
  | cons a r => simp
/-- Of a used coin: it is an own one if it is c, or funded by own ones alone. -/
theorem ownb15_one {S : Sv14} {c : Int} {x : Nat} (hx : us14 usC S.C (x : Int) = true) :
    ownb15 S c x = true ↔ (x : Int) = c ∨ bck15 S (x : Int) ≠ [] ∧ ∀ j, j ∈ bck15 S (x : Int) → 0 ≤ (gt14 S.T j).c ∧ ownb15 S c (gt14 S.T j).c.toNat = true := by
  rw [ownb15_yes]
  constructor
  · rintro ⟨h0, h⟩
    cases h with
    | one _ => exact .inl (by omega)
    | step _ h2 h3 h4 =>
      refine .inr ⟨?_, fun j hj => ?_⟩
      · obtain ⟨j, hj⟩ := h2
        exact ne15_nil.2 ⟨j, (bck15_mem hx).2 hj⟩
      · have hb := (bck15_mem hx).1 hj
        exact ⟨h3 j hb, ownb15_yes.2 ⟨h0, h4 j hb⟩⟩
  · rintro (h | ⟨h1, h2⟩)
    · subst h
      exact ⟨by omega, .one (by simpa using hx)⟩
    · obtain ⟨j0, hj0⟩ := ne15_nil.1 h1
      have h0 := (ownb15_yes.1 (h2 j0 hj0).2).1
      exact ⟨h0, .step hx ⟨j0, (bck15_mem hx).1 hj0⟩ (fun j hj => (h2 j ((bck15_mem hx).2 hj)).1) (fun j hj => (ownb15_yes.1 (h2 j ((bck15_mem hx).2 hj)).2).2)⟩
/-- What is known behind the first k of the order. -/
def Ob15 (S : Sv14) (c : Int) (ns : List Nat) (k : Nat) (T : Nat → Bool) : Prop := ∀ y, T y = (decide (y ∈ ns.take k) && ownb15 S c y)
theorem ob15_start (S : Sv14) (c : Int) (ns : List Nat) : Ob15 S c ns 0 (fun _ => false) := fun y => by simp
theorem ord15_used {S : Sv14} {os : List Nat} {k : Nat} (hk : k < (ord15 S os).length) : us14 usC S.C ((nth (ord15 S os) k : Nat) : Int) = true := by
  have h : nth (ord15 S os) k ∈ ord15 S os := by rw [nth_in hk]; exact List.getElem_mem _
  exact (List.mem_filter.1 h).2
theorem take15_next {ns : List Nat} {k : Nat} (hk : k < ns.length) : ns.take (k + 1) = ns.take k ++ [nth ns k] := by
  rw [List.take_add_one, List.getElem?_eq_getElem hk, nth_in hk]
  rfl
theorem Ob15.next {S : Sv14} {c : Int} {os : List Nat} {n k : Nat} {T : Nat → Bool} (hT : Tickets14 S) (hd : Told13 (Ca15 S) S.C.length os) (hn : S.C.length = n) (hk : k < (ord15 S os).length) (h : Ob15 S c (ord15 S os) k T) {x : Nat} (hx : nth (ord15 S os) k = x) {b : Bool}
    (hb : b = true ↔ (x : Int) = c ∨ Wth15 S n T (x : Int)) : Ob15 S c (ord15 S os) (k + 1) (upd T x b) := by
  have hu : us14 usC S.C (x : Int) = true := by rw [← hx]; exact ord15_used hk
  have hbo : b = ownb15 S c x := by
    rw [Bool.eq_iff_iff, hb, ownb15_one hu]
    have hw : Wth15 S n T (x : Int) ↔ bck15 S (x : Int) ≠ [] ∧ ∀ j, j ∈ bck15 S (x : Int) → 0 ≤ (gt14 S.T j).c ∧ ownb15 S c (gt14 S.T j).c.toNat = true := by
      unfold Wth15
      refine and_congr Iff.rfl (forall_congr' fun j => forall_congr' fun hj => ?_)
      have hbk := (bck15_mem hu).1 hj
      have htk := hT j hbk.1 hbk.2.1
      have hin := us15_lt htk.1
      rw [has15_in (by rw [← hn]; exact hin), h (gt14 S.T j).c.toNat, Bool.and_eq_true, decide_eq_true_iff]
      have hmem : (gt14 S.T j).c.toNat ∈ (ord15 S os).take k := by
        refine told15_pre hd (fun y => us14 usC S.C (y : Int)) k hk _ ?_ ?_
        · rw [show nth (os.filter fun y => us14 usC S.C (y : Int)) k = x from hx, ca15_mem]
          refine ⟨⟨j, hbk, by omega⟩, by omega, ?_⟩
          have := us15_lt hu
          omega
        · show us14 usC S.C (((gt14 S.T j).c.toNat : Nat) : Int) = true
          rw [show (((gt14 S.T j).c.toNat : Nat) : Int) = (gt14 S.T j).c by omega]
          exact htk.1
      exact ⟨fun h5 => ⟨hin.1, h5.2⟩, fun h5 => ⟨hmem, h5.2⟩⟩
    rw [hw]
  intro y
  rw [take15_next hk, hx]
  by_cases hy : y = x
  · subst hy
    rw [upd_at, hbo]
    simp
  · rw [upd_far _ _ hy, h y]
    simp [hy]
theorem Ob15.end_ {S : Sv14} {c : Int} {os : List Nat} {T : Nat → Bool} (hd : Told13 (Ca15 S) S.C.length os) (hf : os.length = S.C.length) (h : Ob15 S c (ord15 S os) (ord15 S os).length T) : ∀ y, T y = ownb15 S c y := by
  intro y
  rw [h y, List.take_length]
  cases ho : ownb15 S c y with
  | false => simp
  | true =>
    have hu := own15_used (ownb15_yes.1 ho).2
    have hin := us15_lt hu
    have hm : y ∈ ord15 S os := List.mem_filter.2 ⟨full13 _ os hd.nodup hd.lt hf y (by omega), hu⟩
    simp [hm]
end Go.Proofs.Ytljpgfnjaagkaaa
