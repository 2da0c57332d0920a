/-
  What any calls take of any words is what stands at their places; a source that was forked goes its own way: the walk.
-/
import Derived.Test.YteollilmfgipcaaSrcC
import Derived.Test.YteollilmfgipcaaRowT
namespace Go.Proofs.Yteollilmfgipcaa
open Go.RowKit
set_option maxRecDepth 100000

theorem plays_long (A B : Option Addr) (n c m d : Nat) (w : World) (hlong : 200 < n ∨ (n ≤ 200 ∧ 60 < m)) :
    Calls Try.prog 3 #[.slice A n c, .slice B m d] w fun e w' => e = .returned (.bool true) ∧ Below w.heap.size w w' := by
  rcases hlong with h | ⟨h, h2⟩
  all_goals
    go_enter Try.func3, Try.ntmps3
    go_wp2_with fail
    refine (alive7_any w).mono ?_
    rintro e w1 ⟨rfl, hb⟩
    go_wp2_with fail
    go_ret
    exact ⟨rfl, hb⟩

/-- The source that goes on, and the law's own list, side by side: both have the words ys; the place is p. -/
def Play (L : Nat) (W : World) (g : Nat) (b : Option Nat) (A : Option Addr) (n c : Nat) (ys : List Nat) (p : Nat) : Prop :=
  Src W L g b ys p ∧ W.ownsRow L 27 1 (.slice A n c) n (wds ys) ∧ ys.length = n ∧ n ≤ c ∧ p ≤ n ∧ L ≤ g ∧ (∀ j, b = some j → (Value.slice A n c).ownBlock ≠ some j)
section
variable {L g n c p : Nat} {W W' : World} {b : Option Nat} {A : Option Addr} {ys : List Nat}
theorem Play.quiet (h : Play L W g b A n c ys p) (hg : W.grownBy W' none) : Play L W' g b A n c ys p := ⟨h.1.quiet hg, own7_none h.2.1 hg, h.2.2⟩
theorem Play.below (h : Play L W g b A n c ys p) (hg : Below W.heap.size W W') : Play L W' g b A n c ys p := ⟨h.1.below hg, own7_keep h.2.1 hg, h.2.2⟩
theorem Play.far (h : Play L W g b A n c ys p) : (Value.slice A n c).ownBlock ≠ some g := by
  obtain ⟨⟨_, _, _, k1, _⟩, k2, _⟩ := h
  exact own7_ne k2 k1 src_types
/-- The place turned. -/
theorem Play.go (h : Play L W g b A n c ys p) {q : Nat} (hs : Src W' L g b ys q) (hg : W.grownBy W' (some g)) : Play L W' g b A n c ys q := by
  have hf := h.far
  obtain ⟨k1, k2, k3, k4, k5, k6, k7⟩ := h
  refine ⟨hs, k2.kept hg (.inr hf), k3, k4, ?_, k6, k7⟩
  obtain ⟨_, _, _, _, _, _, e1, _, e2, _⟩ := hs
  omega
theorem or_of {b row : Option Nat} (h : ∀ j, b = some j → row ≠ some j) : b = none ∨ b ≠ row := by
  cases b with
  | none => exact .inl rfl
  | some j => exact .inr (fun e => h j rfl e.symm)
theorem or_of' {b row : Option Nat} (h : ∀ j, b = some j → row ≠ some j) : row = none ∨ row ≠ b := by
  cases row with
  | none => exact .inl rfl
  | some j => exact .inr (fun e => h j e.symm rfl)
/-- Words were added to the source, and then to the list. -/
theorem Play.more (h : Play L W g b A n c ys p) {zs : List Nat} {b' : Option Nat} {W1 W2 : World} (hs : Src W' L g b' (ys ++ zs) p) (hg1 : W.grownBy W1 b) (hg2 : W1.grownBy W' (some g)) (hb' : b' = b ∨ b' = some W.heap.size)
    {A' : Option Addr} {n' c' : Nat} (hn' : (ys ++ zs).length = n') (hc' : n' ≤ c') (hown : W2.ownsRow L 27 1 (.slice A' n' c') n' (wds ys ++ wds zs)) (hg3 : W'.grownBy W2 (Value.slice A n c).ownBlock)
    (hbl : (Value.slice A' n' c').ownBlock = (Value.slice A n c).ownBlock ∨ (Value.slice A' n' c').ownBlock = some W'.heap.size) : Play L W2 g b' A' n' c' (ys ++ zs) p := by
  have hf := h.far
  obtain ⟨k1, k2, k3, k4, k5, k6, k7⟩ := h
  have hrow := k2.lt
  have hsrow := hs.row
  have hsep : ∀ j, b' = some j → (Value.slice A n c).ownBlock ≠ some j := fun j hj e => by
    rcases hb' with rfl | rfl
    · exact k7 j hj e
    · injection hj with hj
      have := (hrow j e).2
      omega
  refine ⟨hs.grown hg3 (fun e => hf e.symm) (or_of hsep), by rw [wds_append]; exact hown, hn', hc', ?_, k6, fun j hj e => ?_⟩
  · rw [← hn', List.length_append]; omega
  · rcases hbl with hbl | hbl
    · exact hsep j hj (hbl ▸ e)
    · have h1 := (hsrow j hj).2
      rw [hbl] at e
      injection e with e
      omega
/-- The list stays where the source's own blocks turn. -/
theorem Play.list_add (h : Play L W g b A n c ys p) {W1 : World} (hg1 : W.grownBy W1 b) (hg2 : W1.grownBy W' (some g)) : W'.ownsRow L 27 1 (.slice A n c) n (wds ys) :=
  (h.2.1.kept hg1 (or_of' h.2.2.2.2.2.2)).kept hg2 (.inr h.far)
theorem below_two {B : Nat} {w W W1 W' : World} {g : Nat} {b : Option Nat} (hb : Below B w W) (hs : B ≤ W.heap.size) (hg1 : W.grownBy W1 b) (hg2 : W1.grownBy W' (some g)) (hB : B ≤ g) (hr : ∀ j, b = some j → B ≤ j) : Below B w W' :=
  wrote7_b (hb.grown hg1 hs hr) hg2 hB (Nat.le_trans hs hg1.size)
/-- A source that is younger than what is written. -/
theorem Src.beside {L0 g' : Nat} {b' : Option Nat} (hf : Src W L0 g' b' ys p) (hg' : L0 ≤ g') {row : Option Nat} (hg : W.grownBy W' row) (hr : ∀ j, row = some j → j < L0) : Src W' L0 g' b' ys p :=
  hf.grown hg (fun e => by have := hr g' e.symm; omega) (or_of (fun j hj e => by have := (hf.row j hj).1; have := hr j e; omega))
end

set_option maxHeartbeats 8000000 in
theorem plays_walk (A B : Option Addr) (xs : List Nat) (n c m d : Nat) (K T : Nat → Int) (S : Nat → Option Addr × Nat × Nat) (X : Nat → List Nat) (w : World) (hl : xs.length = n) (hr : Rq w w.heap.size A xs) (hac : Acts7 w B m K T S X) (hn : n ≤ 200) (hmm : m ≤ 60) :
    Calls Try.prog 3 #[.slice A n c, .slice B m d] w fun e w' => e = .returned (.bool true) ∧ Below w.heap.size w w' := by
  have HL := Lib.hid hl
  have HR0 := Lib.hid hr
  have HAC := Lib.hid hac
  have HM : Hid ((wds xs).length = n) := Lib.hid (by rw [wds_length]; exact hl)
  have HO := Lib.hid (made7 w w.heap.size (Nat.le_refl _) 27)
  have HR := Lib.hid (Rv.alloc hr (Nat.le_refl _) (.cells #[] 27))
  have HB0 := Lib.hid (b1' w (.cells #[] 27))
  clear hl hr hac
  go_enter Try.func3, Try.ntmps3
  go_wp2_with (at_builtin; go_loud (refine wpList_append_rv _ rfl (.tmp 25) (.tmp 26) 22 rfl w.heap.size 27 (.int .u64 0) 8 Try.underlying22 info_w8 rfl (by omega) (.slice (some ⟨w.heap.size, 0, none⟩) 0 0) 0 [] rfl HO.out w.heap.size A n (wds xs) _ HM.out rfl HR.out (wds_one xs) (by omega) (by simp) ?_); intro A1 c1 w1 hc1 hown1 hg1 hbl1)
  rw [List.nil_append, Nat.zero_add] at hown1
  rw [Nat.zero_add] at hc1
  have hb1 : Below w.heap.size w w1 := HB0.out.grown hg1 (by simp) (by intro k hk; simp [Value.ownBlock] at hk; omega)
  have HOW1 := hown1
  have HC2 := Lib.hid (new_any A1 xs n c1 w1 HL.out (Rq.of_own hown1.out) (by omega))
  clear hown1 hg1 hbl1 HO HR HB0
  refine HC2.out.mono ?_
  rintro en w2 ⟨g, b, rfl, hg, hs2, hb2⟩
  have HB2 := Lib.hid (hb1.trans (hb2.mono hb1.size))
  have HOW2 := Lib.hid (own7_keep HOW1.out hb2)
  have HS2 := Lib.hid hs2
  obtain ⟨L1, hL1⟩ : ∃ L, w1.heap.size = L := ⟨_, rfl⟩
  have hG1 : ∀ k, (Value.slice A1 n c1).ownBlock = some k → k < L1 := fun k hk => by rw [← hL1]; exact (HOW1.out.lt k hk).2
  have hwL : w.heap.size ≤ L1 := by have := hb1.size; omega
  rw [hL1] at hg HS2
  clear hs2 hb2 hb1 HC2 HOW1 hL1
  go_wp2_with fail
  go_loopw [7] (fun i wr => ∃ k : Nat, i = .int .i64 (k : Int) ∧ k ≤ n ∧ Hid (Src wr L1 g b xs 0) ∧ Below w.heap.size w wr ∧ ∃ zs, Hid (wr.ownsRow w.heap.size 27 1 (.slice A1 n c1) n zs) ∧ Hid (∀ j, k ≤ j → zs[j]? = (wds xs)[j]?)) (fun i _ => n - (intOf i).toNat)
  case atStart => exact ⟨0, rfl, by omega, HS2, HB2.out, _, HOW2, Lib.hid (fun _ _ => rfl)⟩
  case round =>
    obtain ⟨k, rfl, hk, HSK, hbl, zs, HOK, HZ⟩ := hrel
    by_cases ht : k < n
    · have hz := HZ.out k (Nat.le_refl _)
      rw [wds_get (by have := HL.out; omega)] at hz
      obtain ⟨G, hG⟩ : ∃ G, A1 = some ⟨G, 0, none⟩ := by
        rcases HOK.out.2 with ⟨_, h2⟩ | ⟨g, cap, cur, hv, _⟩
        · omega
        · injection hv with hv
          exact ⟨g, hv⟩
      obtain rfl := hG
      have hcell := HOK.out.cells (g := G) rfl k _ hz
      have hGl : G < L1 := hG1 G rfl
      have hGw : w.heap.size ≤ G := (HOK.out.lt G rfl).1
      have hcell2 : wr.cell? ⟨G, k, none⟩ = some (.int .u64 ((nth xs k : Nat) : Int)) := by
        unfold Addr.add at hcell
        split at hcell
        · next h0 => subst h0; exact hcell
        · simpa using hcell
      have hfro : wr.frozen? ⟨G, k, none⟩ = false := by
        rcases HOK.out.2 with ⟨h1, h2⟩ | ⟨g, cap, cur, hv, _, hh, _⟩
        · injection h1 with h1; cases h1
        · injection hv with hv
          injection hv with hv
          injection hv with hv
          subst hv
          exact Blk.frozen (t := 27) (cs := cur) hh k
      have hi0 : (0 : Int) ≤ (k : Int) := by omega
      have hi1 : (k : Int) < (n : Int) := by omega
      obtain ⟨x, hx⟩ : ∃ x, nth xs k = x := ⟨_, rfl⟩
      rw [hx] at hcell2
      clear hcell hz hx
      go_wp2_with fail
      go_roundw
      case rel =>
        have hs := fun u => HOK.out.stored k u
        exact ⟨k + 1, by go_num, by omega, Lib.hid (HSK.out.grown (hs _).2 (by simp [Value.ownBlock]; omega) (or_of (fun j hj e => by have := (HSK.out.row j hj).1; simp [Value.ownBlock] at e; omega))), wrote7_b hbl (hs _).2 hGw hbl.size, _, Lib.hid (hs _).1, Lib.hid (fun j hj => by rw [List.getElem?_set_ne (by omega)]; exact HZ.out j (by omega))⟩
      case measure => simp [intOf]; omega
    · have HBL := Lib.hid hbl
      have HSW := Lib.hid (HSK.out.base hwL)
      have HO3 := Lib.hid (made7 wr wr.heap.size (Nat.le_refl _) 27)
      have HR3 := Lib.hid (((Rv.below HR0.out hbl (Nat.le_refl _)).more hbl.size).alloc (Nat.le_refl _) (.cells #[] 27))
      have HB3 := Lib.hid (b1' wr (.cells #[] 27))
      have hgL : w.heap.size ≤ g := by omega
      clear HZ HOK HSK hbl HOW2 HS2 hG1 HB2
      go_wp2_with (at_builtin; go_loud (refine wpList_append_rv _ rfl (.tmp 42) (.tmp 43) 22 rfl wr.heap.size 27 (.int .u64 0) 8 Try.underlying22 info_w8 rfl (by omega) (.slice (some ⟨wr.heap.size, 0, none⟩) 0 0) 0 [] rfl HO3.out wr.heap.size A n (wds xs) _ HM.out rfl HR3.out (wds_one xs) (by omega) (by simp) ?_); intro A2 c2 w4 hc2 hown2 hg2 hbl2)
      rw [List.nil_append, Nat.zero_add] at hown2
      rw [Nat.zero_add] at hc2
      have hb4 : Below wr.heap.size wr w4 := HB3.out.grown hg2 (by simp) (by intro k hk; simp [Value.ownBlock] at hk; omega)
      have HP0 : Hid (Play w.heap.size w4 g b A2 n c2 xs 0) := Lib.hid ⟨HSW.out.below hb4, own7_base hown2.out HBL.out.size, HL.out, hc2, Nat.zero_le _, hgL, fun j hj e => by
        have h1 := (HSW.out.row j hj).2
        have h2 := (hown2.out.lt j e).1
        omega⟩
      have HB4 := Lib.hid (HBL.out.trans (hb4.mono HBL.out.size))
      clear hown2 hg2 hbl2 hb4 HO3 HR3 HB3 HSW HBL
      go_loopw [6, 8, 9, 10] (fun y6 y8 y9 i wr => ∃ (k g : Nat) (b : Option Nat) (A2 : Option Addr) (n2 c2 : Nat) (ys : List Nat) (p : Nat), y6 = .pointer (some ⟨g, 0, none⟩) ∧ y8 = .slice A2 n2 c2 ∧ y9 = .int .i64 (p : Int) ∧ i = .int .i64 (k : Int) ∧ k ≤ m ∧ Hid (Play w.heap.size wr g b A2 n2 c2 ys p) ∧ Hid (Below w.heap.size w wr) ∧ Hid (n2 ≤ 200 + 50 * k)) (fun _ _ _ i _ => m - (intOf i).toNat)
      case atStart => exact ⟨0, g, b, A2, n, c2, xs, 0, rfl, rfl, rfl, rfl, by omega, HP0, HB4, Lib.hid (by omega)⟩
      case round =>
        clear HP0 HB4 hgL hwL hg HR0 HM HL
        obtain ⟨k, g, b, A2, n2, c2, ys, p, rfl, rfl, rfl, rfl, hk, HP, HBL, HQ⟩ := hrel
        by_cases ht : k < m
        · obtain ⟨bb, o, hB, hbb, hcs⟩ := (HAC.out.below HBL.out) (by omega)
          subst hB
          obtain ⟨z0, z1, z2, z3, z4⟩ := hcs k ht
          have z5 : Rq w w.heap.size (S k).1 (X k) := by
            obtain ⟨_, _, _, _, h⟩ := HAC.out (by omega)
            exact (h k ht).2.2.2.2
          obtain ⟨kd, hkd⟩ : ∃ x, K k = x := ⟨_, rfl⟩
          obtain ⟨tp, htp⟩ : ∃ x, T k = x := ⟨_, rfl⟩
          obtain ⟨⟨Ak, nk, ck⟩, hSk⟩ : ∃ x, S k = x := ⟨_, rfl⟩
          obtain ⟨ls, hls⟩ : ∃ x, X k = x := ⟨_, rfl⟩
          rw [hkd] at z0
          rw [htp] at z1
          rw [hSk] at z2 z3 z5
          rw [hls] at z3 z5
          simp only at z2 z3 z5
          have hi0 : (0 : Int) ≤ (k : Int) := by omega
          have hi1 : (k : Int) < (m : Int) := by omega
          have HZ3 := Lib.hid z3
          have HZ5 := Lib.hid z5
          clear hcs hkd htp hSk hls z3 z4 z5
          by_cases h50 : 50 < nk
          · have HBA := Lib.hid (HBL.out.alloc HBL.out.size (.cells #[.int .i64 kd, .int .i64 tp, .slice Ak nk ck] 29))
            clear HP HAC HQ
            go_wp2_with fail
            refine (alive7_any _).mono ?_
            rintro en w9 ⟨rfl, hb9⟩
            go_wp2_with fail
            go_ret
            exact ⟨rfl, HBA.out.trans (hb9.mono HBA.out.size)⟩
          · have hba := b1' wr (.cells #[.int .i64 kd, .int .i64 tp, .slice Ak nk ck] 29)
            have HPa := Lib.hid (HP.out.below hba)
            have HBa := Lib.hid (HBL.out.trans (hba.mono HBL.out.size))
            have HAa := Lib.hid (Blk.new wr 29 #[.int .i64 kd, .int .i64 tp, .slice Ak nk ck])
            have hgl : g < wr.heap.size := HP.out.1.lt
            have HROW : Hid (∀ j, b = some j → w.heap.size ≤ j ∧ j < wr.heap.size) := Lib.hid HP.out.1.row
            have hlen0 := HP.out.2.2.1
            have hpn0 := HP.out.2.2.2.2.1
            have HLEN0 := Lib.hid hlen0
            have hpb : p ≤ 3200 := by have := HQ.out; omega
            have hgw : w.heap.size ≤ g := HP.out.2.2.2.2.2.1
            have HQx : Hid (n2 ≤ 200 + 50 * (k + 1)) := Lib.hid (by have := HQ.out; omega)
            clear hba HP HBL HAC hlen0
            have hk6 : (kd = 0 ∨ kd = 1) ∨ kd = 2 ∨ kd = 3 ∨ kd = 4 ∨ (¬ kd = 0 ∧ ¬ kd = 1 ∧ ¬ kd = 2 ∧ ¬ kd = 3 ∧ ¬ kd = 4) := by omega
            rcases hk6 with k01 | k0 | k0 | k0 | ⟨k0, k1, k2, k3, k4⟩
            · obtain ⟨x, hx⟩ : ∃ x, nth ys p = x := ⟨_, rfl⟩
              have HX := Lib.hid hx
              have hselfx : ((x : Int) != (x : Int)) = false := by simp
              clear hx
              by_cases hlt : p < n2
              · have hlt' : p < ys.length := by rw [HLEN0.out]; exact hlt
                have T0 := peek_ok _ HPa.out.1 hlt'
                rw [HX.out] at T0
                have T0 := Lib.hid T0
                have HLT := Lib.hid hlt'
                clear hlt'
                rcases k01 with k0 | k0
                · subst k0
                  go_wp2_with fail
                  refine T0.out.mono ?_
                  rintro en x1 ⟨rfl, hg1⟩
                  have HPb := Lib.hid (HPa.out.quiet hg1)
                  have HBb := Lib.hid (HBa.out.grown hg1 HBa.out.size (fun j hj => by cases hj))
                  have HAb := Lib.hid (HAa.out.grown hg1 (by simp))
                  have ca0 := HAb.out.cell 0
                  have T1 := take_ok _ HPb.out.1 HLT.out
                  rw [HX.out] at T1
                  have T1 := Lib.hid T1
                  clear T0 hg1 HPa HBa HAa
                  go_wp2_with fail
                  refine T1.out.mono ?_
                  rintro en x2 ⟨rfl, hs2, hg2⟩
                  obtain ⟨q, hq⟩ : ∃ q, p + 1 = q := ⟨_, rfl⟩
                  rw [hq] at hs2
                  have HPx := Lib.hid (HPb.out.go hs2 hg2)
                  have HBx := Lib.hid (wrote7_b HBb.out hg2 hgw HBb.out.size)
                  have HAc := Lib.hid (HAb.out.grown hg2 (by simp; omega))
                  have cb0 := HAc.out.cell 0
                  obtain ⟨b0, o0, hA2, _, cx⟩ := (Rq.of_own HPx.out.2.1).at_ HLT.out
                  subst hA2
                  rw [HX.out] at cx
                  have hj0 : (0 : Int) ≤ (p : Int) := by omega
                  have hj1 : (p : Int) < (n2 : Int) := by omega
                  have hj2 : ((p : Int) == (n2 : Int)) = false := by simp; omega
                  have hq2 : (p : Int) + 1 = (q : Int) := by omega
                  have hq3 : IntKind.i64.wrap (q : Int) = (q : Int) := by rw [IntKind.wrap_i64]; omega
                  clear T1 hs2 hg2 ca0 HPb HBb HAb
                  go_wp2_with fail
                  clear cx cb0 hq2 hq3 hj0 hj1 hj2
                  obtain ⟨r, hr⟩ : ∃ r, ys.length - q = r := ⟨_, rfl⟩
                  have T1 := Lib.hid (at_any _ HPx.out.1)
                  have hlen := HPx.out.2.2.1
                  have hple := HPx.out.2.2.2.2.1
                  have hsub2 : ((n2 : Nat) : Int) - ((q : Nat) : Int) = (r : Int) := by omega
                  have hsub3 : IntKind.i64.wrap (r : Int) = (r : Int) := by rw [IntKind.wrap_i64]; have := HQx.out; omega
                  have hself : ((r : Int) != (r : Int)) = false := by simp
                  have hselfp : (((q : Nat) : Int) != ((q : Nat) : Int)) = false := by simp
                  have HR := Lib.hid hr
                  have HLEN := Lib.hid hlen
                  clear hr hlen
                  go_wp2_with fail
                  refine T1.out.mono ?_
                  rintro en y1 ⟨rfl, hg1⟩
                  have HP1 := Lib.hid (HPx.out.quiet hg1)
                  have HB1 := Lib.hid (HBx.out.grown hg1 HBx.out.size (fun j hj => by cases hj))
                  have T2 := left7_any _ HP1.out.1
                  rw [HR.out] at T2
                  have T2 := Lib.hid T2
                  clear hg1 T1
                  go_wp2_with fail
                  refine T2.out.mono ?_
                  rintro en y2 ⟨rfl, hg2⟩
                  have HP2 := Lib.hid (HP1.out.quiet hg2)
                  have HB2 := Lib.hid (HB1.out.grown hg2 HB1.out.size (fun j hj => by cases hj))
                  have T3 := Lib.hid (all_any _ HP2.out.1)
                  clear hg2 T2
                  go_wp2_with fail
                  refine T3.out.mono ?_
                  rintro en y3 ⟨A5, n5, c5, rfl, hl5, hc5, ho5, hb5⟩
                  obtain rfl : n2 = n5 := by rw [← hl5]; exact HLEN.out.symm
                  have HP3 := Lib.hid (HP2.out.below hb5)
                  have HB3 := Lib.hid (HB2.out.trans (hb5.mono HB2.out.size))
                  have T4 := Lib.hid (same7_any A5 (some ⟨b0, o0, none⟩) ys n2 c5 c2 y3 HLEN.out (Rq.of_own ho5) (Rq.of_own HP3.out.2.1) (by have := HQx.out; omega))
                  clear hl5 ho5 hb5 T3
                  go_wp2_with fail
                  refine T4.out.mono ?_
                  rintro en y4 ⟨rfl, hg4⟩
                  have HP4 := Lib.hid (HP3.out.quiet hg4)
                  have HB4 := Lib.hid (HB3.out.grown hg4 HB3.out.size (fun j hj => by cases hj))
                  clear hg4 T4
                  go_wp2_with fail
                  go_roundw
                  case rel => exact ⟨k + 1, _, _, _, _, _, ys, q, rfl, rfl, rfl, by go_num, by omega, HP4, HB4, HQx⟩
                  case measure => simp [intOf]; omega
                · subst k0
                  go_wp2_with fail
                  refine T0.out.mono ?_
                  rintro en x1 ⟨rfl, hg1⟩
                  have HPx := Lib.hid (HPa.out.quiet hg1)
                  have HBx := Lib.hid (HBa.out.grown hg1 HBa.out.size (fun j hj => by cases hj))
                  have HAb := Lib.hid (HAa.out.grown hg1 (by simp))
                  have cb0 := HAb.out.cell 0
                  obtain ⟨b0, o0, hA2, _, cx⟩ := (Rq.of_own HPx.out.2.1).at_ HLT.out
                  subst hA2
                  rw [HX.out] at cx
                  have hj0 : (0 : Int) ≤ (p : Int) := by omega
                  have hj1 : (p : Int) < (n2 : Int) := by omega
                  have hj2 : ((p : Int) == (n2 : Int)) = false := by simp; omega
                  clear T0 hg1 HPa HBa HAa
                  go_wp2_with fail
                  clear cx cb0 hj0 hj1 hj2
                  obtain ⟨r, hr⟩ : ∃ r, ys.length - p = r := ⟨_, rfl⟩
                  have T1 := Lib.hid (at_any _ HPx.out.1)
                  have hlen := HPx.out.2.2.1
                  have hple := HPx.out.2.2.2.2.1
                  have hsub2 : ((n2 : Nat) : Int) - ((p : Nat) : Int) = (r : Int) := by omega
                  have hsub3 : IntKind.i64.wrap (r : Int) = (r : Int) := by rw [IntKind.wrap_i64]; have := HQx.out; omega
                  have hself : ((r : Int) != (r : Int)) = false := by simp
                  have hselfp : (((p : Nat) : Int) != ((p : Nat) : Int)) = false := by simp
                  have HR := Lib.hid hr
                  have HLEN := Lib.hid hlen
                  clear hr hlen
                  go_wp2_with fail
                  refine T1.out.mono ?_
                  rintro en y1 ⟨rfl, hg1⟩
                  have HP1 := Lib.hid (HPx.out.quiet hg1)
                  have HB1 := Lib.hid (HBx.out.grown hg1 HBx.out.size (fun j hj => by cases hj))
                  have T2 := left7_any _ HP1.out.1
                  rw [HR.out] at T2
                  have T2 := Lib.hid T2
                  clear hg1 T1
                  go_wp2_with fail
                  refine T2.out.mono ?_
                  rintro en y2 ⟨rfl, hg2⟩
                  have HP2 := Lib.hid (HP1.out.quiet hg2)
                  have HB2 := Lib.hid (HB1.out.grown hg2 HB1.out.size (fun j hj => by cases hj))
                  have T3 := Lib.hid (all_any _ HP2.out.1)
                  clear hg2 T2
                  go_wp2_with fail
                  refine T3.out.mono ?_
                  rintro en y3 ⟨A5, n5, c5, rfl, hl5, hc5, ho5, hb5⟩
                  obtain rfl : n2 = n5 := by rw [← hl5]; exact HLEN.out.symm
                  have HP3 := Lib.hid (HP2.out.below hb5)
                  have HB3 := Lib.hid (HB2.out.trans (hb5.mono HB2.out.size))
                  have T4 := Lib.hid (same7_any A5 (some ⟨b0, o0, none⟩) ys n2 c5 c2 y3 HLEN.out (Rq.of_own ho5) (Rq.of_own HP3.out.2.1) (by have := HQx.out; omega))
                  clear hl5 ho5 hb5 T3
                  go_wp2_with fail
                  refine T4.out.mono ?_
                  rintro en y4 ⟨rfl, hg4⟩
                  have HP4 := Lib.hid (HP3.out.quiet hg4)
                  have HB4 := Lib.hid (HB3.out.grown hg4 HB3.out.size (fun j hj => by cases hj))
                  clear hg4 T4
                  go_wp2_with fail
                  go_roundw
                  case rel => exact ⟨k + 1, _, _, _, _, _, ys, p, rfl, rfl, rfl, by go_num, by omega, HP4, HB4, HQx⟩
                  case measure => simp [intOf]; omega
              · obtain rfl : p = n2 := by omega
                have hsrc := HPa.out.1
                rw [← HLEN0.out] at hsrc
                have T0 := Lib.hid (peek_no _ hsrc)
                have hj2 : ((p : Int) == (p : Int)) = true := by simp
                have hj3 : ¬ ((p : Int) < (p : Int)) := by omega
                clear hsrc
                rcases k01 with k0 | k0
                · subst k0
                  go_wp2_with fail
                  refine T0.out.mono ?_
                  rintro en x1 ⟨rfl, hg1⟩
                  have HPb := Lib.hid (HPa.out.quiet hg1)
                  have HBb := Lib.hid (HBa.out.grown hg1 HBa.out.size (fun j hj => by cases hj))
                  have HAb := Lib.hid (HAa.out.grown hg1 (by simp))
                  have ca0 := HAb.out.cell 0
                  have hsrc := HPb.out.1
                  rw [← HLEN0.out] at hsrc
                  have T1 := Lib.hid (take_no _ hsrc)
                  clear T0 hg1 HPa HBa HAa hsrc
                  go_wp2_with fail
                  refine T1.out.mono ?_
                  rintro en x2 ⟨rfl, hg2⟩
                  have HPx := Lib.hid (HPb.out.quiet hg2)
                  have HBx := Lib.hid (HBb.out.grown hg2 HBb.out.size (fun j hj => by cases hj))
                  have HAc := Lib.hid (HAb.out.grown hg2 (by simp))
                  have cb0 := HAc.out.cell 0
                  clear T1 hg2 ca0 HPb HBb HAb
                  go_wp2_with fail
                  clear cb0 hj2 hj3
                  obtain ⟨r, hr⟩ : ∃ r, ys.length - p = r := ⟨_, rfl⟩
                  have T1 := Lib.hid (at_any _ HPx.out.1)
                  have hlen := HPx.out.2.2.1
                  have hple := HPx.out.2.2.2.2.1
                  have hsub2 : ((p : Nat) : Int) - ((p : Nat) : Int) = (r : Int) := by omega
                  have hsub3 : IntKind.i64.wrap (r : Int) = (r : Int) := by rw [IntKind.wrap_i64]; have := HQx.out; omega
                  have hself : ((r : Int) != (r : Int)) = false := by simp
                  have hselfp : (((p : Nat) : Int) != ((p : Nat) : Int)) = false := by simp
                  have HR := Lib.hid hr
                  have HLEN := Lib.hid hlen
                  clear hr hlen
                  go_wp2_with fail
                  refine T1.out.mono ?_
                  rintro en y1 ⟨rfl, hg1⟩
                  have HP1 := Lib.hid (HPx.out.quiet hg1)
                  have HB1 := Lib.hid (HBx.out.grown hg1 HBx.out.size (fun j hj => by cases hj))
                  have T2 := left7_any _ HP1.out.1
                  rw [HR.out] at T2
                  have T2 := Lib.hid T2
                  clear hg1 T1
                  go_wp2_with fail
                  refine T2.out.mono ?_
                  rintro en y2 ⟨rfl, hg2⟩
                  have HP2 := Lib.hid (HP1.out.quiet hg2)
                  have HB2 := Lib.hid (HB1.out.grown hg2 HB1.out.size (fun j hj => by cases hj))
                  have T3 := Lib.hid (all_any _ HP2.out.1)
                  clear hg2 T2
                  go_wp2_with fail
                  refine T3.out.mono ?_
                  rintro en y3 ⟨A5, n5, c5, rfl, hl5, hc5, ho5, hb5⟩
                  obtain rfl : p = n5 := by rw [← hl5]; exact HLEN.out.symm
                  have HP3 := Lib.hid (HP2.out.below hb5)
                  have HB3 := Lib.hid (HB2.out.trans (hb5.mono HB2.out.size))
                  have T4 := Lib.hid (same7_any A5 A2 ys p c5 c2 y3 HLEN.out (Rq.of_own ho5) (Rq.of_own HP3.out.2.1) (by have := HQx.out; omega))
                  clear hl5 ho5 hb5 T3
                  go_wp2_with fail
                  refine T4.out.mono ?_
                  rintro en y4 ⟨rfl, hg4⟩
                  have HP4 := Lib.hid (HP3.out.quiet hg4)
                  have HB4 := Lib.hid (HB3.out.grown hg4 HB3.out.size (fun j hj => by cases hj))
                  clear hg4 T4
                  go_wp2_with fail
                  go_roundw
                  case rel => exact ⟨k + 1, _, _, _, _, _, ys, p, rfl, rfl, rfl, by go_num, by omega, HP4, HB4, HQx⟩
                  case measure => simp [intOf]; omega
                · subst k0
                  go_wp2_with fail
                  refine T0.out.mono ?_
                  rintro en x1 ⟨rfl, hg1⟩
                  have HPx := Lib.hid (HPa.out.quiet hg1)
                  have HBx := Lib.hid (HBa.out.grown hg1 HBa.out.size (fun j hj => by cases hj))
                  have HAb := Lib.hid (HAa.out.grown hg1 (by simp))
                  have cb0 := HAb.out.cell 0
                  clear T0 hg1 HPa HBa HAa
                  go_wp2_with fail
                  clear cb0 hj2 hj3
                  obtain ⟨r, hr⟩ : ∃ r, ys.length - p = r := ⟨_, rfl⟩
                  have T1 := Lib.hid (at_any _ HPx.out.1)
                  have hlen := HPx.out.2.2.1
                  have hple := HPx.out.2.2.2.2.1
                  have hsub2 : ((p : Nat) : Int) - ((p : Nat) : Int) = (r : Int) := by omega
                  have hsub3 : IntKind.i64.wrap (r : Int) = (r : Int) := by rw [IntKind.wrap_i64]; have := HQx.out; omega
                  have hself : ((r : Int) != (r : Int)) = false := by simp
                  have hselfp : (((p : Nat) : Int) != ((p : Nat) : Int)) = false := by simp
                  have HR := Lib.hid hr
                  have HLEN := Lib.hid hlen
                  clear hr hlen
                  go_wp2_with fail
                  refine T1.out.mono ?_
                  rintro en y1 ⟨rfl, hg1⟩
                  have HP1 := Lib.hid (HPx.out.quiet hg1)
                  have HB1 := Lib.hid (HBx.out.grown hg1 HBx.out.size (fun j hj => by cases hj))
                  have T2 := left7_any _ HP1.out.1
                  rw [HR.out] at T2
                  have T2 := Lib.hid T2
                  clear hg1 T1
                  go_wp2_with fail
                  refine T2.out.mono ?_
                  rintro en y2 ⟨rfl, hg2⟩
                  have HP2 := Lib.hid (HP1.out.quiet hg2)
                  have HB2 := Lib.hid (HB1.out.grown hg2 HB1.out.size (fun j hj => by cases hj))
                  have T3 := Lib.hid (all_any _ HP2.out.1)
                  clear hg2 T2
                  go_wp2_with fail
                  refine T3.out.mono ?_
                  rintro en y3 ⟨A5, n5, c5, rfl, hl5, hc5, ho5, hb5⟩
                  obtain rfl : p = n5 := by rw [← hl5]; exact HLEN.out.symm
                  have HP3 := Lib.hid (HP2.out.below hb5)
                  have HB3 := Lib.hid (HB2.out.trans (hb5.mono HB2.out.size))
                  have T4 := Lib.hid (same7_any A5 A2 ys p c5 c2 y3 HLEN.out (Rq.of_own ho5) (Rq.of_own HP3.out.2.1) (by have := HQx.out; omega))
                  clear hl5 ho5 hb5 T3
                  go_wp2_with fail
                  refine T4.out.mono ?_
                  rintro en y4 ⟨rfl, hg4⟩
                  have HP4 := Lib.hid (HP3.out.quiet hg4)
                  have HB4 := Lib.hid (HB3.out.grown hg4 HB3.out.size (fun j hj => by cases hj))
                  clear hg4 T4
                  go_wp2_with fail
                  go_roundw
                  case rel => exact ⟨k + 1, _, _, _, _, _, ys, p, rfl, rfl, rfl, by go_num, by omega, HP4, HB4, HQx⟩
                  case measure => simp [intOf]; omega
            · subst k0
              have hin : (∃ q : Nat, tp = (q : Int) ∧ q ≤ n2) ∨ tp < 0 ∨ (0 ≤ tp ∧ (n2 : Int) < tp) := by
                by_cases h1 : tp < 0
                · exact .inr (.inl h1)
                · by_cases h2 : (n2 : Int) < tp
                  · exact .inr (.inr ⟨by omega, h2⟩)
                  · exact .inl ⟨tp.toNat, by omega, by omega⟩
              rcases hin with ⟨q, rfl, hq⟩ | h1 | ⟨h1, h2⟩
              · have T0 := Lib.hid (seek_ok q _ HPa.out.1 (by rw [HLEN0.out]; exact hq))
                go_wp2_with fail
                refine T0.out.mono ?_
                rintro en x1 ⟨rfl, hs1, hg1⟩
                have HPx := Lib.hid (HPa.out.go hs1 hg1)
                have HBx := Lib.hid (wrote7_b HBa.out hg1 hgw HBa.out.size)
                have HAb := Lib.hid (HAa.out.grown hg1 (by simp; omega))
                have cb1 := HAb.out.cell 1
                have hj0 : (0 : Int) ≤ (q : Int) := by omega
                have hj1 : (q : Int) ≤ (n2 : Int) := by omega
                clear T0 hs1 hg1 HPa HBa HAa
                go_wp2_with fail
                clear cb1 hj0 hj1
                obtain ⟨r, hr⟩ : ∃ r, ys.length - q = r := ⟨_, rfl⟩
                have T1 := Lib.hid (at_any _ HPx.out.1)
                have hlen := HPx.out.2.2.1
                have hple := HPx.out.2.2.2.2.1
                have hsub2 : ((n2 : Nat) : Int) - ((q : Nat) : Int) = (r : Int) := by omega
                have hsub3 : IntKind.i64.wrap (r : Int) = (r : Int) := by rw [IntKind.wrap_i64]; have := HQx.out; omega
                have hself : ((r : Int) != (r : Int)) = false := by simp
                have hselfp : (((q : Nat) : Int) != ((q : Nat) : Int)) = false := by simp
                have HR := Lib.hid hr
                have HLEN := Lib.hid hlen
                clear hr hlen
                go_wp2_with fail
                refine T1.out.mono ?_
                rintro en y1 ⟨rfl, hg1⟩
                have HP1 := Lib.hid (HPx.out.quiet hg1)
                have HB1 := Lib.hid (HBx.out.grown hg1 HBx.out.size (fun j hj => by cases hj))
                have T2 := left7_any _ HP1.out.1
                rw [HR.out] at T2
                have T2 := Lib.hid T2
                clear hg1 T1
                go_wp2_with fail
                refine T2.out.mono ?_
                rintro en y2 ⟨rfl, hg2⟩
                have HP2 := Lib.hid (HP1.out.quiet hg2)
                have HB2 := Lib.hid (HB1.out.grown hg2 HB1.out.size (fun j hj => by cases hj))
                have T3 := Lib.hid (all_any _ HP2.out.1)
                clear hg2 T2
                go_wp2_with fail
                refine T3.out.mono ?_
                rintro en y3 ⟨A5, n5, c5, rfl, hl5, hc5, ho5, hb5⟩
                obtain rfl : n2 = n5 := by rw [← hl5]; exact HLEN.out.symm
                have HP3 := Lib.hid (HP2.out.below hb5)
                have HB3 := Lib.hid (HB2.out.trans (hb5.mono HB2.out.size))
                have T4 := Lib.hid (same7_any A5 A2 ys n2 c5 c2 y3 HLEN.out (Rq.of_own ho5) (Rq.of_own HP3.out.2.1) (by have := HQx.out; omega))
                clear hl5 ho5 hb5 T3
                go_wp2_with fail
                refine T4.out.mono ?_
                rintro en y4 ⟨rfl, hg4⟩
                have HP4 := Lib.hid (HP3.out.quiet hg4)
                have HB4 := Lib.hid (HB3.out.grown hg4 HB3.out.size (fun j hj => by cases hj))
                clear hg4 T4
                go_wp2_with fail
                go_roundw
                case rel => exact ⟨k + 1, _, _, _, _, _, ys, q, rfl, rfl, rfl, by go_num, by omega, HP4, HB4, HQx⟩
                case measure => simp [intOf]; omega
              · have T0 := Lib.hid (seek_no tp _ HPa.out.1 (.inl h1))
                have hj0 : ¬ (0 : Int) ≤ tp := by omega
                go_wp2_with fail
                refine T0.out.mono ?_
                rintro en x1 ⟨rfl, rfl⟩
                have HPx := HPa
                have HBx := HBa
                clear T0
                go_wp2_with fail
                obtain ⟨r, hr⟩ : ∃ r, ys.length - p = r := ⟨_, rfl⟩
                have T1 := Lib.hid (at_any _ HPx.out.1)
                have hlen := HPx.out.2.2.1
                have hple := HPx.out.2.2.2.2.1
                have hsub2 : ((n2 : Nat) : Int) - ((p : Nat) : Int) = (r : Int) := by omega
                have hsub3 : IntKind.i64.wrap (r : Int) = (r : Int) := by rw [IntKind.wrap_i64]; have := HQx.out; omega
                have hself : ((r : Int) != (r : Int)) = false := by simp
                have hselfp : (((p : Nat) : Int) != ((p : Nat) : Int)) = false := by simp
                have HR := Lib.hid hr
                have HLEN := Lib.hid hlen
                clear hr hlen
                go_wp2_with fail
                refine T1.out.mono ?_
                rintro en y1 ⟨rfl, hg1⟩
                have HP1 := Lib.hid (HPx.out.quiet hg1)
                have HB1 := Lib.hid (HBx.out.grown hg1 HBx.out.size (fun j hj => by cases hj))
                have T2 := left7_any _ HP1.out.1
                rw [HR.out] at T2
                have T2 := Lib.hid T2
                clear hg1 T1
                go_wp2_with fail
                refine T2.out.mono ?_
                rintro en y2 ⟨rfl, hg2⟩
                have HP2 := Lib.hid (HP1.out.quiet hg2)
                have HB2 := Lib.hid (HB1.out.grown hg2 HB1.out.size (fun j hj => by cases hj))
                have T3 := Lib.hid (all_any _ HP2.out.1)
                clear hg2 T2
                go_wp2_with fail
                refine T3.out.mono ?_
                rintro en y3 ⟨A5, n5, c5, rfl, hl5, hc5, ho5, hb5⟩
                obtain rfl : n2 = n5 := by rw [← hl5]; exact HLEN.out.symm
                have HP3 := Lib.hid (HP2.out.below hb5)
                have HB3 := Lib.hid (HB2.out.trans (hb5.mono HB2.out.size))
                have T4 := Lib.hid (same7_any A5 A2 ys n2 c5 c2 y3 HLEN.out (Rq.of_own ho5) (Rq.of_own HP3.out.2.1) (by have := HQx.out; omega))
                clear hl5 ho5 hb5 T3
                go_wp2_with fail
                refine T4.out.mono ?_
                rintro en y4 ⟨rfl, hg4⟩
                have HP4 := Lib.hid (HP3.out.quiet hg4)
                have HB4 := Lib.hid (HB3.out.grown hg4 HB3.out.size (fun j hj => by cases hj))
                clear hg4 T4
                go_wp2_with fail
                go_roundw
                case rel => exact ⟨k + 1, _, _, _, _, _, ys, p, rfl, rfl, rfl, by go_num, by omega, HP4, HB4, HQx⟩
                case measure => simp [intOf]; omega
              · have T0 := Lib.hid (seek_no tp _ HPa.out.1 (.inr (by rw [HLEN0.out]; exact h2)))
                have hj1 : ¬ tp ≤ (n2 : Int) := by omega
                go_wp2_with fail
                refine T0.out.mono ?_
                rintro en x1 ⟨rfl, rfl⟩
                have HPx := HPa
                have HBx := HBa
                clear T0
                go_wp2_with fail
                obtain ⟨r, hr⟩ : ∃ r, ys.length - p = r := ⟨_, rfl⟩
                have T1 := Lib.hid (at_any _ HPx.out.1)
                have hlen := HPx.out.2.2.1
                have hple := HPx.out.2.2.2.2.1
                have hsub2 : ((n2 : Nat) : Int) - ((p : Nat) : Int) = (r : Int) := by omega
                have hsub3 : IntKind.i64.wrap (r : Int) = (r : Int) := by rw [IntKind.wrap_i64]; have := HQx.out; omega
                have hself : ((r : Int) != (r : Int)) = false := by simp
                have hselfp : (((p : Nat) : Int) != ((p : Nat) : Int)) = false := by simp
                have HR := Lib.hid hr
                have HLEN := Lib.hid hlen
                clear hr hlen
                go_wp2_with fail
                refine T1.out.mono ?_
                rintro en y1 ⟨rfl, hg1⟩
                have HP1 := Lib.hid (HPx.out.quiet hg1)
                have HB1 := Lib.hid (HBx.out.grown hg1 HBx.out.size (fun j hj => by cases hj))
                have T2 := left7_any _ HP1.out.1
                rw [HR.out] at T2
                have T2 := Lib.hid T2
                clear hg1 T1
                go_wp2_with fail
                refine T2.out.mono ?_
                rintro en y2 ⟨rfl, hg2⟩
                have HP2 := Lib.hid (HP1.out.quiet hg2)
                have HB2 := Lib.hid (HB1.out.grown hg2 HB1.out.size (fun j hj => by cases hj))
                have T3 := Lib.hid (all_any _ HP2.out.1)
                clear hg2 T2
                go_wp2_with fail
                refine T3.out.mono ?_
                rintro en y3 ⟨A5, n5, c5, rfl, hl5, hc5, ho5, hb5⟩
                obtain rfl : n2 = n5 := by rw [← hl5]; exact HLEN.out.symm
                have HP3 := Lib.hid (HP2.out.below hb5)
                have HB3 := Lib.hid (HB2.out.trans (hb5.mono HB2.out.size))
                have T4 := Lib.hid (same7_any A5 A2 ys n2 c5 c2 y3 HLEN.out (Rq.of_own ho5) (Rq.of_own HP3.out.2.1) (by have := HQx.out; omega))
                clear hl5 ho5 hb5 T3
                go_wp2_with fail
                refine T4.out.mono ?_
                rintro en y4 ⟨rfl, hg4⟩
                have HP4 := Lib.hid (HP3.out.quiet hg4)
                have HB4 := Lib.hid (HB3.out.grown hg4 HB3.out.size (fun j hj => by cases hj))
                clear hg4 T4
                go_wp2_with fail
                go_roundw
                case rel => exact ⟨k + 1, _, _, _, _, _, ys, p, rfl, rfl, rfl, by go_num, by omega, HP4, HB4, HQx⟩
                case measure => simp [intOf]; omega
            · subst k0
              have hra : Rq _ _ Ak ls := (Rv.below HZ5.out HBa.out (Nat.le_refl _)).more HBa.out.size
              have T0 := Lib.hid (add7_any Ak ls nk ck _ HPa.out.1 HBa.out.size HZ3.out hra (by have := HLEN0.out; have := HQx.out; omega))
              clear hra
              go_wp2_with fail
              refine T0.out.mono ?_
              rintro en x1 ⟨rfl, b', wm, hs1, hg1, hg2, hbb'⟩
              have HSR := Lib.hid hs1
              have HG1 := Lib.hid hg1
              have HG2 := Lib.hid hg2
              have HBB := Lib.hid hbb'
              have HBb : Hid (Below w.heap.size w x1) := Lib.hid (below_two HBa.out HBa.out.size hg1 hg2 hgw (fun j hj => (HROW.out j hj).1))
              have HAb := Lib.hid ((HAa.out.grown hg1 (fun e => by have := (HROW.out _ e.symm).2; omega)).grown hg2 (by simp; omega))
              have cb2 := HAb.out.cell 2
              have HO5 := Lib.hid (HPa.out.list_add hg1 hg2)
              have HM5 : Hid ((wds ls).length = nk) := Lib.hid (by rw [wds_length]; exact HZ3.out)
              have HR5 : Hid (Rq x1 w.heap.size Ak ls) := Lib.hid (Rv.below HZ5.out HBb.out (Nat.le_refl _))
              have hbs : w.heap.size ≤ x1.heap.size := HBb.out.size
              clear T0 hs1 hg1 hg2 hbb'
              go_wp2_with (at_builtin; go_loud (refine wpList_append_rv _ rfl (.tmp 146) (.tmp 148) 22 rfl w.heap.size 27 (.int .u64 0) 8 Try.underlying22 info_w8 rfl (by omega) (.slice A2 n2 c2) n2 (wds ys) rfl HO5.out w.heap.size Ak nk (wds ls) _ HM5.out rfl HR5.out (wds_one ls) (by have := HQx.out; omega) hbs ?_); intro A3 c3 w6 hc3 hown3 hg3 hbl3; have HG3 := Lib.hid hg3; have HBL3 := Lib.hid hbl3; clear hg3 hbl3)
              obtain ⟨n3, hn3⟩ : ∃ x, n2 + nk = x := ⟨_, rfl⟩
              rw [hn3] at hc3 hown3 HBL3 ⊢
              have HPx := Lib.hid (HPa.out.more HSR.out HG1.out HG2.out HBB.out (n' := n3) (by rw [List.length_append, HLEN0.out, HZ3.out, hn3]) hc3 hown3.out HG3.out HBL3.out)
              have HBx := Lib.hid (HBb.out.grown HG3.out hbs (fun j hj => (HO5.out.lt j hj).1))
              have HQx : Hid (n3 ≤ 200 + 50 * (k + 1)) := Lib.hid (by have := HQ.out; omega)
              obtain ⟨vs, hvs⟩ : ∃ x, ys ++ ls = x := ⟨_, rfl⟩
              rw [hvs] at HPx
              clear cb2 hc3 hown3 HBL3 HG3 HO5 HR5 HAb HPa HBa HAa hvs hpn0 HLEN0
              obtain ⟨r, hr⟩ : ∃ r, vs.length - p = r := ⟨_, rfl⟩
              have T1 := Lib.hid (at_any _ HPx.out.1)
              have hlen := HPx.out.2.2.1
              have hple := HPx.out.2.2.2.2.1
              have hsub2 : ((n3 : Nat) : Int) - ((p : Nat) : Int) = (r : Int) := by omega
              have hsub3 : IntKind.i64.wrap (r : Int) = (r : Int) := by rw [IntKind.wrap_i64]; have := HQx.out; omega
              have hself : ((r : Int) != (r : Int)) = false := by simp
              have hselfp : (((p : Nat) : Int) != ((p : Nat) : Int)) = false := by simp
              have HR := Lib.hid hr
              have HLEN := Lib.hid hlen
              clear hr hlen
              go_wp2_with fail
              refine T1.out.mono ?_
              rintro en y1 ⟨rfl, hg1⟩
              have HP1 := Lib.hid (HPx.out.quiet hg1)
              have HB1 := Lib.hid (HBx.out.grown hg1 HBx.out.size (fun j hj => by cases hj))
              have T2 := left7_any _ HP1.out.1
              rw [HR.out] at T2
              have T2 := Lib.hid T2
              clear hg1 T1
              go_wp2_with fail
              refine T2.out.mono ?_
              rintro en y2 ⟨rfl, hg2⟩
              have HP2 := Lib.hid (HP1.out.quiet hg2)
              have HB2 := Lib.hid (HB1.out.grown hg2 HB1.out.size (fun j hj => by cases hj))
              have T3 := Lib.hid (all_any _ HP2.out.1)
              clear hg2 T2
              go_wp2_with fail
              refine T3.out.mono ?_
              rintro en y3 ⟨A5, n5, c5, rfl, hl5, hc5, ho5, hb5⟩
              obtain rfl : n3 = n5 := by rw [← hl5]; exact HLEN.out.symm
              have HP3 := Lib.hid (HP2.out.below hb5)
              have HB3 := Lib.hid (HB2.out.trans (hb5.mono HB2.out.size))
              have T4 := Lib.hid (same7_any A5 A3 vs n3 c5 c3 y3 HLEN.out (Rq.of_own ho5) (Rq.of_own HP3.out.2.1) (by have := HQx.out; omega))
              clear hl5 ho5 hb5 T3
              go_wp2_with fail
              refine T4.out.mono ?_
              rintro en y4 ⟨rfl, hg4⟩
              have HP4 := Lib.hid (HP3.out.quiet hg4)
              have HB4 := Lib.hid (HB3.out.grown hg4 HB3.out.size (fun j hj => by cases hj))
              clear hg4 T4
              go_wp2_with fail
              go_roundw
              case rel => exact ⟨k + 1, _, _, _, _, _, vs, p, rfl, rfl, rfl, by go_num, by omega, HP4, HB4, HQx⟩
              case measure => simp [intOf]; omega
            · subst k0
              have T0 := Lib.hid (fork_any _ HPa.out.1)
              go_wp2_with fail
              obtain ⟨wa, hwa⟩ : ∃ W, wr.alloc (.cells #[.int .i64 4, .int .i64 tp, .slice Ak nk ck] 29) = W := ⟨_, rfl⟩
              rw [hwa] at HPa HBa HAa T0 ⊢
              have hgA : g < wa.heap.size := HPa.out.1.lt
              have HRW2 : Hid (∀ j, b = some j → j < wa.heap.size) := Lib.hid (fun j hj => (HPa.out.1.row j hj).2)
              have HAL : Hid (∀ j, (Value.slice A2 n2 c2).ownBlock = some j → j < wa.heap.size) := Lib.hid (fun j hj => (HPa.out.2.1.lt j hj).2)
              have hwl : w.heap.size ≤ wa.heap.size := HBa.out.size
              refine T0.out.mono ?_
              rintro en x1 ⟨g1, b1, rfl, hg', hs1, hb1⟩
              obtain ⟨L0, hL0⟩ : ∃ x, wa.heap.size = x := ⟨_, rfl⟩
              rw [hL0] at hg' hs1 hgA HRW2 HAL hwl
              have HPb := Lib.hid (HPa.out.below hb1)
              have HBb := Lib.hid (HBa.out.trans (hb1.mono HBa.out.size))
              have HF1 := Lib.hid hs1
              have T1 := Lib.hid (all_any _ hs1)
              clear T0 hs1 hb1 hwa HPa HBa HAa hL0
              go_wp2_with fail
              refine T1.out.mono ?_
              rintro en x2 ⟨A5, n5, c5, rfl, hl5, hc5, ho5, hb5⟩
              obtain rfl : n2 = n5 := by rw [← hl5]; exact HLEN0.out.symm
              have HPc := Lib.hid (HPb.out.below hb5)
              have HBc := Lib.hid (HBb.out.trans (hb5.mono HBb.out.size))
              have HF2 := Lib.hid (HF1.out.below hb5)
              have T2 := Lib.hid (same7_any A5 A2 ys n2 c5 c2 x2 HLEN0.out (Rq.of_own ho5) (Rq.of_own HPc.out.2.1) (by have := HQx.out; omega))
              clear T1 hl5 ho5 hb5 HPb HBb HF1
              go_wp2_with fail
              refine T2.out.mono ?_
              rintro en x3 ⟨rfl, hg3⟩
              have HPd := Lib.hid (HPc.out.quiet hg3)
              have HBd := Lib.hid (HBc.out.grown hg3 HBc.out.size (fun j hj => by cases hj))
              have HF3 := Lib.hid (HF2.out.quiet hg3)
              have T3 := Lib.hid (seek_ok 0 _ HPd.out.1 (Nat.zero_le _))
              clear T2 hg3 HPc HBc HF2
              go_wp2_with fail
              refine T3.out.mono ?_
              rintro en x4 ⟨rfl, hs4, hg4⟩
              have hP4 := HPd.out.go hs4 hg4
              have hB4 := wrote7_b HBd.out hg4 hgw HBd.out.size
              have hF4 := HF3.out.beside hg' hg4 (fun j hj => by cases hj; exact hgA)
              have hba := b1' x4 (.cells #[.int .u64 1] 27)
              have HP5 := Lib.hid (hP4.below hba)
              have HB5 := Lib.hid (hB4.trans (hba.mono hB4.size))
              have HF5 := Lib.hid (hF4.below hba)
              have T4 := Lib.hid (add7_any (some ⟨x4.heap.size, 0, none⟩) [1] 1 1 _ HP5.out.1 HB5.out.size rfl ((Rq.lit x4 27 [1]).more (by simp)) (by have := HLEN0.out; have := HQx.out; omega))
              clear T3 hs4 hg4 hP4 hB4 hF4 hba HPd HBd HF3
              go_wp2_with fail
              refine T4.out.mono ?_
              rintro en x5 ⟨rfl, b2, wm, _, hg5, hg6, _⟩
              have HBx := Lib.hid (below_two HB5.out HB5.out.size hg5 hg6 hgw (fun j hj => (HROW.out j hj).1))
              have HPx : Hid (Play w.heap.size x5 g1 b1 A2 n2 c2 ys p) := Lib.hid ⟨((HF5.out.beside hg' hg5 HRW2.out).beside hg' hg6 (fun j hj => by cases hj; exact hgA)).base hwl, HP5.out.list_add hg5 hg6, HLEN0.out, HP5.out.2.2.2.1, hpn0, by omega, fun j hj e => by
                have h1 := (HF5.out.row j hj).1
                have h2 := HAL.out j e
                omega⟩
              clear T4 hg5 hg6 HP5 HB5 HF5
              go_wp2_with fail
              obtain ⟨r, hr⟩ : ∃ r, ys.length - p = r := ⟨_, rfl⟩
              have T1 := Lib.hid (at_any _ HPx.out.1)
              have hlen := HPx.out.2.2.1
              have hple := HPx.out.2.2.2.2.1
              have hsub2 : ((n2 : Nat) : Int) - ((p : Nat) : Int) = (r : Int) := by omega
              have hsub3 : IntKind.i64.wrap (r : Int) = (r : Int) := by rw [IntKind.wrap_i64]; have := HQx.out; omega
              have hself : ((r : Int) != (r : Int)) = false := by simp
              have hselfp : (((p : Nat) : Int) != ((p : Nat) : Int)) = false := by simp
              have HR := Lib.hid hr
              have HLEN := Lib.hid hlen
              clear hr hlen
              go_wp2_with fail
              refine T1.out.mono ?_
              rintro en y1 ⟨rfl, hg1⟩
              have HP1 := Lib.hid (HPx.out.quiet hg1)
              have HB1 := Lib.hid (HBx.out.grown hg1 HBx.out.size (fun j hj => by cases hj))
              have T2 := left7_any _ HP1.out.1
              rw [HR.out] at T2
              have T2 := Lib.hid T2
              clear hg1 T1
              go_wp2_with fail
              refine T2.out.mono ?_
              rintro en y2 ⟨rfl, hg2⟩
              have HP2 := Lib.hid (HP1.out.quiet hg2)
              have HB2 := Lib.hid (HB1.out.grown hg2 HB1.out.size (fun j hj => by cases hj))
              have T3 := Lib.hid (all_any _ HP2.out.1)
              clear hg2 T2
              go_wp2_with fail
              refine T3.out.mono ?_
              rintro en y3 ⟨A5, n5, c5, rfl, hl5, hc5, ho5, hb5⟩
              obtain rfl : n2 = n5 := by rw [← hl5]; exact HLEN.out.symm
              have HP3 := Lib.hid (HP2.out.below hb5)
              have HB3 := Lib.hid (HB2.out.trans (hb5.mono HB2.out.size))
              have T4 := Lib.hid (same7_any A5 A2 ys n2 c5 c2 y3 HLEN.out (Rq.of_own ho5) (Rq.of_own HP3.out.2.1) (by have := HQx.out; omega))
              clear hl5 ho5 hb5 T3
              go_wp2_with fail
              refine T4.out.mono ?_
              rintro en y4 ⟨rfl, hg4⟩
              have HP4 := Lib.hid (HP3.out.quiet hg4)
              have HB4 := Lib.hid (HB3.out.grown hg4 HB3.out.size (fun j hj => by cases hj))
              clear hg4 T4
              go_wp2_with fail
              go_roundw
              case rel => exact ⟨k + 1, _, _, _, _, _, ys, p, rfl, rfl, rfl, by go_num, by omega, HP4, HB4, HQx⟩
              case measure => simp [intOf]; omega
            · go_wp2_with fail
              have HPx := HPa
              have HBx := HBa
              obtain ⟨r, hr⟩ : ∃ r, ys.length - p = r := ⟨_, rfl⟩
              have T1 := Lib.hid (at_any _ HPx.out.1)
              have hlen := HPx.out.2.2.1
              have hple := HPx.out.2.2.2.2.1
              have hsub2 : ((n2 : Nat) : Int) - ((p : Nat) : Int) = (r : Int) := by omega
              have hsub3 : IntKind.i64.wrap (r : Int) = (r : Int) := by rw [IntKind.wrap_i64]; have := HQx.out; omega
              have hself : ((r : Int) != (r : Int)) = false := by simp
              have hselfp : (((p : Nat) : Int) != ((p : Nat) : Int)) = false := by simp
              have HR := Lib.hid hr
              have HLEN := Lib.hid hlen
              clear hr hlen
              go_wp2_with fail
              refine T1.out.mono ?_
              rintro en y1 ⟨rfl, hg1⟩
              have HP1 := Lib.hid (HPx.out.quiet hg1)
              have HB1 := Lib.hid (HBx.out.grown hg1 HBx.out.size (fun j hj => by cases hj))
              have T2 := left7_any _ HP1.out.1
              rw [HR.out] at T2
              have T2 := Lib.hid T2
              clear hg1 T1
              go_wp2_with fail
              refine T2.out.mono ?_
              rintro en y2 ⟨rfl, hg2⟩
              have HP2 := Lib.hid (HP1.out.quiet hg2)
              have HB2 := Lib.hid (HB1.out.grown hg2 HB1.out.size (fun j hj => by cases hj))
              have T3 := Lib.hid (all_any _ HP2.out.1)
              clear hg2 T2
              go_wp2_with fail
              refine T3.out.mono ?_
              rintro en y3 ⟨A5, n5, c5, rfl, hl5, hc5, ho5, hb5⟩
              obtain rfl : n2 = n5 := by rw [← hl5]; exact HLEN.out.symm
              have HP3 := Lib.hid (HP2.out.below hb5)
              have HB3 := Lib.hid (HB2.out.trans (hb5.mono HB2.out.size))
              have T4 := Lib.hid (same7_any A5 A2 ys n2 c5 c2 y3 HLEN.out (Rq.of_own ho5) (Rq.of_own HP3.out.2.1) (by have := HQx.out; omega))
              clear hl5 ho5 hb5 T3
              go_wp2_with fail
              refine T4.out.mono ?_
              rintro en y4 ⟨rfl, hg4⟩
              have HP4 := Lib.hid (HP3.out.quiet hg4)
              have HB4 := Lib.hid (HB3.out.grown hg4 HB3.out.size (fun j hj => by cases hj))
              clear hg4 T4
              go_wp2_with fail
              go_roundw
              case rel => exact ⟨k + 1, _, _, _, _, _, ys, p, rfl, rfl, rfl, by go_num, by omega, HP4, HB4, HQx⟩
              case measure => simp [intOf]; omega
        · go_wp2_with fail
          refine (alive7_any _).mono ?_
          rintro en w9 ⟨rfl, hb9⟩
          go_wp2_with fail
          go_ret
          exact ⟨rfl, HBL.out.trans (hb9.mono HBL.out.size)⟩
end Go.Proofs.Yteollilmfgipcaa
