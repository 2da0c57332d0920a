/-
  The document's numbers, in digits: Div.
-/
import Derived.Test.YtengcnchjpkhkaaNums
import Derived.Deep.DeepCutAuto
import Derived.Deep.RegionLaw
import Derived.Deep.CutBlock
namespace Go.Proofs.Ytengcnchjpkhkaa
open Go.RowKit

/-- The memory of Div: its arguments, boxed; its results' cells; the quotient's digits; the rest, in block g7. -/
structure DivMem (w : World) (g7 : Nat) (x y s : Value) (ds : List Nat) (R : Nat) (wr : World) : Prop where
  below : Below w.heap.size w wr
  one : Blk wr w.heap.size 31 #[x]
  two : Blk wr (w.heap.size + 1) 31 #[y]
  res1 : Blk wr (w.heap.size + 2) 31 #[.slice none 0 0]
  res2 : Blk wr (w.heap.size + 3) 31 #[.slice none 0 0]
  row : Blk wr (w.heap.size + 4) 3 (ints ds).toArray
  rest : Blk wr g7 31 #[s]
  num : Num wr (g7 + 1) (.agg #[s]) R
  far : w.heap.size + 4 < g7

theorem DivMem.start {w w1 : World} {x y : Value} {N : Nat} {cur : List Value} {G : Nat}
    (hG : G = w.heap.size + 4) (hown : w1.ownsRow (w.heap.size + 4) 3 1 (.slice (some ⟨G, 0, none⟩) N N) N cur) (hcur : cur = ints (List.replicate N 0))
    (hg : ((((w.alloc (.cells #[x] 31)).alloc (.cells #[y] 31)).alloc (.cells #[.slice none 0 0] 31)).alloc (.cells #[.slice none 0 0] 31)).grownBy w1 none) :
    DivMem w w1.heap.size x y (.slice none 0 0) (List.replicate N 0) 0 (w1.alloc (.cells #[.slice none 0 0] 31)) := by
  subst hG
  have hb0 : Below w.heap.size w ((((w.alloc (.cells #[x] 31)).alloc (.cells #[y] 31)).alloc (.cells #[.slice none 0 0] 31)).alloc (.cells #[.slice none 0 0] 31)) :=
    ((((Below.refl _ _).alloc (Nat.le_refl _) _).alloc (by simp) _).alloc (by simp; omega) _).alloc (by simp; omega) _
  have hb1 := hb0.grown hg (by simp; omega) (by intro k hk; cases hk)
  have h1 := ((((Blk.new w 31 #[x]).alloc (.cells #[y] 31)).alloc (.cells #[.slice none 0 0] 31)).alloc (.cells #[.slice none 0 0] 31)).grown hg (by simp)
  have h2 := (((Blk.new (w.alloc (.cells #[x] 31)) 31 #[y]).alloc (.cells #[.slice none 0 0] 31)).alloc (.cells #[.slice none 0 0] 31)).grown hg (by simp)
  have h3 := ((Blk.new ((w.alloc (.cells #[x] 31)).alloc (.cells #[y] 31)) 31 #[.slice none 0 0]).alloc (.cells #[.slice none 0 0] 31)).grown hg (by simp)
  have h4 := (Blk.new (((w.alloc (.cells #[x] 31)).alloc (.cells #[y] 31)).alloc (.cells #[.slice none 0 0] 31)) 31 #[.slice none 0 0]).grown hg (by simp)
  have hrow : Blk w1 (w.heap.size + 4) 3 (ints (List.replicate N 0)).toArray := by
    rcases hown.2 with ⟨h, _⟩ | ⟨g, cap, c, hv, _, hh, _, _, hsz, ht⟩
    · injection h with h; cases h
    · injection hv with hv _ hcap
      injection hv with hv
      injection hv with hv
      subst hv hcap
      unfold Blk
      rw [hh]
      have : c = (ints (List.replicate N 0)).toArray := by
        rw [← hcur, ← ht, List.take_of_length_le (by simp; omega)]
      rw [this]
  have hlt := hrow.lt
  exact ⟨hb1.alloc hb1.size _, h1.alloc _, by simpa using h2.alloc (.cells #[.slice none 0 0] 31), by simpa using h3.alloc (.cells #[.slice none 0 0] 31), by simpa using h4.alloc (.cells #[.slice none 0 0] 31),
    hrow.alloc _, Blk.new _ _ _, ⟨none, [], 0, 0, rfl, rfl, Nat.le_refl _, Rd.nil _ _ _, fun h => absurd rfl h, Can.nil, rfl⟩, hlt⟩
theorem DivMem.more {w wr w1 : World} {g7 : Nat} {x y s : Value} {ds : List Nat} {R : Nat} (h : DivMem w g7 x y s ds R wr) (hb : Below wr.heap.size wr w1) : DivMem w g7 x y s ds R w1 :=
  ⟨h.below.trans (hb.mono h.below.size), h.one.below hb h.one.lt, h.two.below hb h.two.lt, h.res1.below hb h.res1.lt, h.res2.below hb h.res2.lt, h.row.below hb h.row.lt, h.rest.below hb h.rest.lt, h.num.below hb, h.far⟩
theorem DivMem.store {w wr : World} {g7 : Nat} {x y s : Value} {ds : List Nat} {R : Nat} (h : DivMem w g7 x y s ds R wr) (j r : Nat) :
    DivMem w g7 x y s (ds.set j r) R (wr.setCell ⟨w.heap.size + 4, j, none⟩ (.int .i64 (r : Int))) := by
  have hf := h.far
  refine ⟨h.below.setCell (by simp) _, h.one.far (by simp) _, h.two.far (by simp) _, h.res1.far (by simp) _, h.res2.far (by simp) _, ?_, h.rest.far (by simp; omega) _, h.num.old (by simp; omega) _, hf⟩
  have := h.row.set_ j (.int .i64 (r : Int))
  have e : (ints ds).toArray.setIfInBounds j (.int .i64 (r : Int)) = (ints (ds.set j r)).toArray := by simp [ints, List.map_set]
  rw [e] at this
  exact this
theorem DivMem.digit {w wr : World} {g7 : Nat} {x y s : Value} {ds : List Nat} {R : Nat} (h : DivMem w g7 x y s ds R wr) {j : Nat} (hj : j < ds.length) :
    wr.cell? ⟨w.heap.size + 4, j, none⟩ = some (.int .i64 ((nth ds j : Nat) : Int)) := by
  rw [h.row.cell j]
  simpa using ints_get hj
theorem DivMem.put {w wr : World} {g7 : Nat} {x y s s' : Value} {ds : List Nat} {R R' L : Nat} (h : DivMem w g7 x y s ds R wr) (hn : Num wr L (.agg #[s']) R') (hL : g7 < L) :
    DivMem w g7 x y s' ds R' (wr.setCell ⟨g7, 0, none⟩ s') := by
  have hf := h.far
  refine ⟨h.below.setCell (by simp; omega) _, h.one.far (by simp; omega) _, h.two.far (by simp; omega) _, h.res1.far (by simp; omega) _, h.res2.far (by simp; omega) _, h.row.far (by simp; omega) _, ?_, (hn.old (by simp; omega) _).more (by omega), hf⟩
  have := h.rest.set_ 0 s'
  simpa using this

/-- At the outer round's head, k digits are still to come. -/
def DOut (xs : List Nat) (b n1 : Nat) (w : World) (g7 : Nat) (x y : Value) (k : Nat) (wr : World) : Prop :=
  ∃ ds s R, ds.length = n1 ∧ Dig ds ∧ V (xs.drop k) = V (ds.drop k) * b + R ∧ R < b ∧ DivMem w g7 x y s ds R wr

theorem V_set_drop {ds : List Nat} {j r : Nat} (hj : j < ds.length) : V ((ds.set j r).drop j) = r + 65536 * V (ds.drop (j + 1)) := by
  rw [V_drop, nth_set hj, if_pos rfl]
  congr 3
  rw [List.drop_set]
  simp

theorem div_step {xs ds : List Nat} {l b R T q : Nat} (hV : V (xs.drop (l + 1)) = V (ds.drop (l + 1)) * b + R) (hT : nth xs l + 65536 * R = T) (hq : b * q ≤ T) (hl : l < ds.length) :
    V (xs.drop l) = V ((ds.set l q).drop l) * b + (T - b * q) := by
  rw [V_drop, hV, V_set_drop hl]
  obtain ⟨t, ht⟩ : ∃ t, T = b * q + t := ⟨T - b * q, by omega⟩
  rw [ht, Nat.add_sub_cancel_left]
  generalize V (ds.drop (l + 1)) = D at *
  rw [ht] at hT
  grind
theorem bel_of_drew {w w1 : World} (h : Below w.drew.heap.size w.drew w1) : Below w.heap.size w w1 := (Below.refl _ _).drew.trans h
theorem div_end {X D b R : Nat} (h : X = D * b + R) (hR : R < b) : X / b = D ∧ X % b = R := by
  subst h
  rw [Nat.mul_comm D b]
  exact ⟨by rw [Nat.mul_add_div (by omega), Nat.div_eq_of_lt hR, Nat.add_zero], by rw [Nat.mul_add_mod, Nat.mod_eq_of_lt hR]⟩
theorem div_keep {w W : World} {g7 B : Nat} {s : Value} {p : Addr} (h : W.cell? ⟨g7, 0, none⟩ = some s ∧ Below B w W) (hp : p.block ≠ g7) (hB : B ≤ p.block) (u : Value) :
    (W.setCell p u).cell? ⟨g7, 0, none⟩ = some s ∧ Below B w (W.setCell p u) :=
  ⟨(World.cell?_setCell_other W p _ u (fun e => by subst e; simp at hp)).trans h.1, h.2.setCell hB _⟩
theorem div_s {w wr : World} {g7 : Nat} {x y s : Value} {ds : List Nat} {R : Nat} (h : DivMem w g7 x y s ds R wr) : wr.cell? ⟨g7, 0, none⟩ = some s ∧ Below w.heap.size w wr := ⟨h.rest.cell 0, h.below⟩
theorem div_big1 {T b kb : Nat} (h : T < (65535 + 1) * b) (hb : b < 65536 ^ kb) : T < 65536 ^ (kb + 10) := by
  have h1 : (65535 + 1) * b ≤ 65536 * 65536 ^ kb := Nat.mul_le_mul_left _ (by omega)
  have h2 : (65536 : Nat) * 65536 ^ kb ≤ 65536 ^ (kb + 10) := by rw [Nat.mul_comm, ← Nat.pow_succ]; exact Nat.pow_le_pow_right (by omega) (by omega)
  omega
theorem div_big2 {q b kb : Nat} (h : q ≤ 65535) (hb : b < 65536 ^ kb) : b * q < 65536 ^ (kb + 10) := by
  have h0 : b * q ≤ b * 65535 := Nat.mul_le_mul_left _ h
  have h1 : b * 65536 ≤ 65536 ^ kb * 65536 := Nat.mul_le_mul_right _ (by omega)
  have h2 : (65536 : Nat) ^ kb * 65536 ≤ 65536 ^ (kb + 10) := by rw [← Nat.pow_succ]; exact Nat.pow_le_pow_right (by omega) (by omega)
  have h3 : 0 < 65536 ^ (kb + 10) := Nat.pow_pos (by omega)
  omega
theorem div_cmp (a b : Nat) : ∃ z : Int, cmpI a b = z ∧ ((z ≤ 0 ∧ a ≤ b) ∨ (¬ z ≤ 0 ∧ b < a)) := by
  rcases Nat.lt_trichotomy a b with h | h | h
  · exact ⟨-1, cmpI_lt h, .inl ⟨by omega, by omega⟩⟩
  · exact ⟨0, cmpI_eq h, .inl ⟨by omega, by omega⟩⟩
  · exact ⟨1, cmpI_gt h, .inr ⟨by omega, h⟩⟩
theorem div_dig {d : Nat} {rs : List Nat} (h : d < 65536) (hr : Dig rs) : Dig ([d] ++ rs) := by
  intro x hx
  rcases List.mem_append.1 hx with h1 | h1
  · simp at h1; omega
  · exact hr x h1
theorem div_len {d n n3 : Nat} {rs : List Nat} (h : ([d] ++ rs).length = n) (hr : rs.length = n3) (h3 : n3 ≤ 4000) : n ≤ 1000000 := by
  simp at h
  omega
theorem divm_x {w w1 : World} {x y a b : Obj} (hg : ((((w.alloc x).alloc y).alloc a).alloc b).grownBy w1 none) : w1.cell? ⟨w.heap.size, 0, none⟩ = (w.alloc x).cell? ⟨w.heap.size, 0, none⟩ := by
  have h : w1.cell? ⟨w.heap.size, 0, none⟩ = ((((w.alloc x).alloc y).alloc a).alloc b).cell? ⟨w.heap.size, 0, none⟩ := World.cell?_of_block (hg.block w.heap.size (by simp; omega) (by simp))
  rw [h, World.cell?_alloc_lt _ _ _ (by simp; omega), World.cell?_alloc_lt _ _ _ (by simp; omega), World.cell?_alloc_lt _ _ _ (by simp)]

set_option maxRecDepth 100000 in
set_option maxHeartbeats 3200000 in
theorem div_any (A1 : Option Addr) (xs : List Nat) (n1 c1 : Nat) (s2 : Value) (b L : Nat) (w : World) (hl1 : xs.length = n1) (hr1 : Rd w w.heap.size A1 xs) (hd1 : Dig xs) (hn1 : n1 ≤ 4000)
    (hy : Num w L (.agg #[s2]) b) (hb0 : 0 < b) {kb : Nat} (hbb : b < 65536 ^ kb) (hkb : kb ≤ 4000) :
    Calls Try.prog 27 #[.agg #[.slice A1 n1 c1], .agg #[s2]] w fun e w' => ∃ v1 v2, e = .returned (.tuple #[v1, v2]) ∧ Num w' w.heap.size v1 (V xs / b) ∧ Num w' w.heap.size v2 (V xs % b) ∧ Below w.heap.size w w' := by
  have HL1 := Lib.hid hl1
  clear hl1
  have HB := Lib.hid hbb
  clear hbb
  obtain ⟨i0, hi0, hz0, hz1, hz2⟩ := info_parts info_int
  go_enter Try.func27, Try.ntmps27
  go_wp2_with ((with_reducible refine wpList_make_full _ rfl (.tmp 14) (.tmp 14) 29 rfl (w.heap.size + 4) 3 i0 (.int .i64 0) 1 Try.underlying29 hi0 hz0 hz1 .i64 .i64 _ _ n1 rfl rfl (by omega) (by omega) (by rw [hz2]; omega) (by unfold maxLen; omega) (by simp) ?_); intro w1 hown1 hg1; have hx1 : w1.cell? ⟨w.heap.size, 0, none⟩ = some (.slice A1 n1 c1) := (divm_x hg1).trans ((Blk.new w _ _).cell 0); have hx2 : (w1.alloc (.cells #[.slice none 0 0] 31)).cell? ⟨w.heap.size, 0, none⟩ = some (.slice A1 n1 c1) := (World.cell?_alloc_lt _ _ _ (World.block_lt_of_cell? _ _ hx1)).trans hx1)
  have hm0 : DivMem w w1.heap.size (.slice A1 n1 c1) s2 (.slice none 0 0) (List.replicate n1 0) 0 (w1.alloc (.cells #[.slice none 0 0] 31)) := DivMem.start (by simp) hown1 (madeCells_ints n1) hg1
  have HM0 := Lib.hid hm0
  obtain ⟨g7, hg7⟩ : ∃ g7, g7 = w1.heap.size := ⟨_, rfl⟩
  rw [← hg7] at HM0 ⊢
  clear hown1 hg1 hm0 hz0 hz1 hz2 hx1 hx2
  go_loopw [8] (fun i wr => ∃ (k : Nat) (j : Int), i = .int .i64 j ∧ j + 1 = (k : Int) ∧ k ≤ n1 ∧ DOut xs b n1 w g7 (.slice A1 n1 c1) s2 k wr) (fun i _ => (intOf i + 1).toNat)
  case atStart => exact ⟨n1, _, rfl, by omega, by omega, List.replicate n1 0, _, 0, by simp, zeros_dig n1, by rw [List.drop_eq_nil_of_le (by have := HL1.out; omega), List.drop_eq_nil_of_le (by simp)]; simp [V], hb0, HM0.out⟩
  case round =>
    clear HM0 hg7
    obtain ⟨k, j, rfl, hj, hk, ds, s, R, hdl, hdd, hV, hRb, hmm⟩ := hrel
    have HV := Lib.hid hV
    have HDL := Lib.hid hdl
    have HM := Lib.hid hmm
    clear hV hdl hmm
    by_cases ht : 0 < k
    · obtain ⟨l, rfl⟩ : ∃ m, k = m + 1 := ⟨k - 1, by omega⟩
      obtain rfl : j = (l : Int) := by omega
      obtain ⟨A3, n3, c3, hs3⟩ := HM.out.num.shape
      obtain rfl : s = .slice A3 n3 c3 := by simpa using hs3
      obtain ⟨b1, o1, hA1, hb1, cx⟩ := (hr1.below HM.out.below (Nat.le_refl _)).at_ (k := l) (by have := HL1.out; omega)
      subst hA1
      have ca := HM.out.one.cell 0
      have cr := HM.out.rest.cell 0
      have hi0' : (0 : Int) ≤ (l : Int) := by omega
      have hi1' : (l : Int) < (n1 : Int) := by omega
      have hxl := hd1.nth l
      clear hs3
      obtain ⟨A3', rs, n3', c3', hv3, hrl, hrc, hrr, _, hrcan, hrv⟩ := HM.out.num
      simp only [Value.agg.injEq, Array.mk.injEq, List.cons.injEq, Value.slice.injEq, and_true] at hv3
      obtain ⟨rfl, rfl, rfl⟩ := hv3
      have hrn : n3 ≤ 4000 := by have := hrcan.len (k := kb) (by have := HB.out; omega); omega
      have HRL := Lib.hid hrl
      have HRV := Lib.hid hrv
      have HRD := Lib.hid hrcan.1
      have cr2 : (wr.alloc (.cells #[.int .i64 ((nth xs l : Nat) : Int)] 3)).cell? ⟨g7, 0, none⟩ = some (.slice A3 n3 c3) := (World.cell?_alloc_lt _ _ _ HM.out.rest.lt).trans cr
      have hw5 : w.heap.size + 5 ≤ wr.heap.size := by have := HM.out.rest.lt; have := HM.out.far; omega
      clear hrl hrv hrcan
      go_upto_region 6 with (fail)
      go_cut [] (fun wx => ∃ (A4 : Option Addr) (n4 c4 : Nat), DivMem w g7 (.slice (some ⟨b1, o1, none⟩) n1 c1) s2 (.slice A4 n4 c4) ds (nth xs l + 65536 * R) wx)
      case first =>
        go_region_law (first
          | (refine step_append_ints _ (by rfl) _ _ _ (by rfl) (w.heap.size + 5) 3 Try.underlying29 info_int _ [nth xs l] (by rfl) ((owns_lit wr (w.heap.size + 5) 3 [nth xs l] hw5 (by simp [maxLen])).drew) wr.heap.size A3 n3 rs c3 HRL.out (by rfl) (hrr.keep fun p hp => World.cell?_alloc_lt wr _ p hp) (by have := HRL.out; simp; omega) (by simp; omega) ?_; intro A' n' c' w2 hl2 hc2 hown2 hg2)
          | (go_simp; go_at_call 39; refine (cut_any A' ([nth xs l] ++ rs) n' c' _ hl2.out (Rd.of_own hown2.out) (div_dig hxl HRD.out) (div_len hl2.out HRL.out hrn) hc2).mono ?_; rintro e w3 ⟨v, rfl, hn4, hb4⟩; obtain ⟨A4, n4, c4, rfl⟩ := hn4.shape
             have hB2 : Below wr.heap.size wr w2 := (((Below.refl _ _).alloc (Nat.le_refl _) _).drew).grown hg2 (by simp) (by intro k hk; simp [Value.ownBlock] at hk; omega)
             have M3 := Lib.hid ((HM.out.more hB2).more hb4)
             have M3c := M3.out.rest.cell 0
             have M3f := M3.out.rest.frozen 0
             have HN4 := Lib.hid hn4
             have hz4 := hB2.size
             clear hn4))
        all_goals
          go_wp2_with fail
          go_meet
          have hn4 := HN4.out
          rw [V_append, show V [nth xs l] = nth xs l by simp [V], HRV.out] at hn4
          exact ⟨A4, n4, c4, M3.out.put hn4 (by have := HM.out.rest.lt; omega)⟩
      case rest =>
        clear hrr hw5 HRL HRV HRD cr2 cx ca cr hb1
        obtain ⟨A4, n4, c4, hm⟩ := hcut
        obtain ⟨T, hT⟩ : ∃ T, nth xs l + 65536 * R = T := ⟨_, rfl⟩
        rw [hT] at hm
        have HT := Lib.hid hT
        have HTB : Hid (T < (65535 + 1) * b) := Lib.hid (by
          have h : (R + 1) * 65536 ≤ b * 65536 := Nat.mul_le_mul_right _ hRb
          omega)
        have HT2 : Hid (T < 65536 ^ (kb + 10)) := Lib.hid (div_big1 HTB.out HB.out)
        have HM2 := Lib.hid hm
        clear hT hm
        go_wp2_with fail
        go_loopw [9, 10] (fun y9 y10 wr => ∃ lo hi : Nat, y9 = .int .i64 (lo : Int) ∧ y10 = .int .i64 (hi : Int) ∧ lo ≤ hi ∧ hi ≤ 65535 ∧ Hid (lo * b ≤ T) ∧ Hid (T < (hi + 1) * b) ∧ DivMem w g7 (.slice (some ⟨b1, o1, none⟩) n1 c1) s2 (.slice A4 n4 c4) ds T wr) (fun y9 y10 _ => (intOf y10).toNat - (intOf y9).toNat)
        case atStart => exact ⟨0, 65535, rfl, rfl, by omega, by omega, Lib.hid (by omega), HTB, HM2.out⟩
        case round =>
          clear HM2 HM HTB
          obtain ⟨lo, hi, rfl, rfl, hlh, hhi, HLO, HHI, hm⟩ := hrel
          have HM := Lib.hid hm
          have cy := hm.two.cell 0
          have cr := hm.rest.cell 0
          clear hm
          by_cases hlt : lo < hi
          · obtain ⟨mid, hmid⟩ : ∃ mid, mid = (lo + hi + 1) / 2 := ⟨_, rfl⟩
            have hmid1 : lo < mid := by omega
            have hmid2 : mid ≤ hi := by omega
            have HMID : Hid (((lo : Int) + (hi : Int) + 1) / 2 = (mid : Int)) := Lib.hid (by omega)
            clear hmid
            have HBM : Hid (b * mid < 65536 ^ (kb + 10)) := Lib.hid (div_big2 (by omega) HB.out)
            have HBB : Hid (b < 65536 ^ (kb + 10)) := Lib.hid (by have := HBM.out; have h1 : b * 1 ≤ b * mid := Nat.mul_le_mul_left _ (by omega); omega)
            have hcv : IntKind.u64.wrap (mid : Int) = (mid : Int) := u64_in _ (by omega)
            obtain ⟨z, hz, hcase⟩ := div_cmp (b * mid) T
            have HZ := Lib.hid hz
            clear hz
            go_wp2_with fail
            rw [HMID.out]
            rcases hcase with ⟨hz0, hle⟩ | ⟨hz0, hle⟩
            · have HLE := Lib.hid hle
              clear hle
              go_region_held3 (fun w' => w'.cell? ⟨w.heap.size + 1, 0, none⟩ = some s2 ∧ w'.cell? ⟨g7, 0, none⟩ = some (.slice A4 n4 c4) ∧ Below wr.heap.size wr w')
                (first | exact ⟨cy, cr, (Below.refl _ _).drew⟩ | assumption)
              (first
                | (go_at_call 23; (with_reducible refine (of_any mid _ (by omega)).mono ?_); rintro e u1 ⟨v1, rfl, hn1, hb1⟩; have N1 := Lib.hid hn1; clear hn1; have hS1 := held_more hb1 (by assumption))
                | (go_at_call 40; (with_reducible refine (mul_num (.agg #[s2]) v1 b mid _ _ _ (hy.below (HM.out.below.trans (hS1.2.2.mono HM.out.below.size))) N1.out HBB.out (pow_word (by omega))).mono ?_); rintro e u3 ⟨v3, rfl, hn3, hb3⟩; have N3 := Lib.hid hn3; clear hn3; have hS3 := held_more hb3 (by assumption))
                | (go_at_call 22; (with_reducible refine (cmp_num v3 (.agg #[.slice A4 n4 c4]) (b * mid) T _ _ _ N3.out (HM.out.num.below hS3.2.2) HBM.out HT2.out).mono ?_); rintro e u5 ⟨rfl, hb5⟩; rw [HZ.out]; have hS5 := held_more hb5 (by assumption)))
              have hB := hS5.2.2
              clear hS1 hS3 hS5 N1 N3
              go_wp2_with fail
              go_roundw
              case rel => exact ⟨mid, hi, rfl, rfl, by omega, by omega, Lib.hid (by rw [Nat.mul_comm]; exact HLE.out), HHI, HM.out.more hB⟩
              case measure => simp [intOf]; omega
            · have HLE := Lib.hid hle
              clear hle
              go_region_held3 (fun w' => w'.cell? ⟨w.heap.size + 1, 0, none⟩ = some s2 ∧ w'.cell? ⟨g7, 0, none⟩ = some (.slice A4 n4 c4) ∧ Below wr.heap.size wr w')
                (first | exact ⟨cy, cr, (Below.refl _ _).drew⟩ | assumption)
              (first
                | (go_at_call 23; (with_reducible refine (of_any mid _ (by omega)).mono ?_); rintro e u1 ⟨v1, rfl, hn1, hb1⟩; have N1 := Lib.hid hn1; clear hn1; have hS1 := held_more hb1 (by assumption))
                | (go_at_call 40; (with_reducible refine (mul_num (.agg #[s2]) v1 b mid _ _ _ (hy.below (HM.out.below.trans (hS1.2.2.mono HM.out.below.size))) N1.out HBB.out (pow_word (by omega))).mono ?_); rintro e u3 ⟨v3, rfl, hn3, hb3⟩; have N3 := Lib.hid hn3; clear hn3; have hS3 := held_more hb3 (by assumption))
                | (go_at_call 22; (with_reducible refine (cmp_num v3 (.agg #[.slice A4 n4 c4]) (b * mid) T _ _ _ N3.out (HM.out.num.below hS3.2.2) HBM.out HT2.out).mono ?_); rintro e u5 ⟨rfl, hb5⟩; rw [HZ.out]; have hS5 := held_more hb5 (by assumption)))
              have hB := hS5.2.2
              clear hS1 hS3 hS5 N1 N3
              obtain ⟨md, rfl⟩ : ∃ m, mid = m + 1 := ⟨mid - 1, by omega⟩
              go_wp2_with fail
              go_roundw
              case rel => exact ⟨lo, md, rfl, by go_num, by omega, by omega, HLO, Lib.hid (by rw [Nat.mul_comm]; exact HLE.out), HM.out.more hB⟩
              case measure => simp [intOf]; omega
          · obtain rfl : lo = hi := by omega
            have HQ : Hid (b * lo ≤ T) := Lib.hid (by rw [Nat.mul_comm]; exact HLO.out)
            have HR2 : Hid (T - b * lo < b) := Lib.hid (by have := HHI.out; have := HLO.out; rw [Nat.mul_comm b lo]; rw [Nat.add_mul] at *; omega)
            have HBM : Hid (b * lo < 65536 ^ (kb + 10)) := Lib.hid (div_big2 (by omega) HB.out)
            have HBB : Hid (b < 65536 ^ (kb + 10)) := Lib.hid (Nat.lt_of_lt_of_le HB.out (Nat.pow_le_pow_right (by omega) (by omega)))
            have cd : wr.cell? ⟨w.heap.size + 1 + 1 + 1 + 1, l, none⟩ = some (.int .i64 ((nth ds l : Nat) : Int)) := HM.out.digit (by have := HDL.out; omega)
            have cf : wr.frozen? ⟨w.heap.size + 1 + 1 + 1 + 1, l, none⟩ = false := HM.out.row.frozen l
            have hM4 := HM.out.store l lo
            have HM4 := Lib.hid hM4
            have hcv : IntKind.u64.wrap (lo : Int) = (lo : Int) := u64_in _ (by omega)
            clear hM4 HLO HHI
            go_upto_region 15 with (fail)
            obtain ⟨wq, hwq⟩ : ∃ wq, wq = wr.setCell ⟨w.heap.size + 1 + 1 + 1 + 1, l, none⟩ (.int .i64 (lo : Int)) := ⟨_, rfl⟩
            have HM5 : Hid (DivMem w g7 (.slice (some ⟨b1, o1, none⟩) n1 c1) s2 (.slice A4 n4 c4) (ds.set l lo) T wq) := Lib.hid (by rw [hwq]; exact HM4.out)
            rw [← hwq]
            have cy := HM5.out.two.cell 0
            have cr := HM5.out.rest.cell 0
            clear hwq HM4 cd cf HM
            have HV2 : Hid (V (xs.drop l) = V ((ds.set l lo).drop l) * b + (T - b * lo)) := Lib.hid (div_step HV.out HT.out HQ.out (by have := HDL.out; omega))
            go_region_law (first
              | (go_simp; go_at_call 23; (with_reducible refine (of_any lo _ (by omega)).mono ?_); rintro e u1 ⟨v1, rfl, hn1, hb1⟩; have hq1 := bel_of_drew hb1; have M1 := Lib.hid (HM5.out.more hq1); have M1y := M1.out.two.cell 0; have M1r := M1.out.rest.cell 0; have N1 := Lib.hid hn1; clear hn1)
              | (go_simp; go_at_call 40; (with_reducible refine (mul_num (.agg #[s2]) v1 b lo _ _ _ (hy.below M1.out.below) N1.out HBB.out (pow_word (by omega))).mono ?_); rintro e u3 ⟨v3, rfl, hn3, hb3⟩; have M3 := Lib.hid (M1.out.more hb3); have M3r := M3.out.rest.cell 0; have N3 := Lib.hid hn3; clear hn3)
              | (go_simp; go_at_call 24; (with_reducible refine (sub_num (.agg #[.slice A4 n4 c4]) v3 T (b * lo) _ _ _ M3.out.num N3.out HT2.out HQ.out).mono ?_); rintro e u5 ⟨v5, rfl, hn5, hb5⟩; obtain ⟨A5, n5, c5, rfl⟩ := hn5.shape; have M5 := Lib.hid (M3.out.more hb5); have M5r := M5.out.rest.cell 0; have M5f := M5.out.rest.frozen 0; have N5 := Lib.hid hn5; have hz5 := M3.out.rest.lt; clear hn5))
            all_goals
              have HM6 := Lib.hid (M5.out.put N5.out hz5)
              clear M5r M5f M5 N5 hz5
              go_wp2_with fail
              go_roundw
              case rel => exact ⟨l, (l : Int) - 1, by go_num, by omega, by omega, ds.set l lo, _, T - b * lo, by have := HDL.out; simp; omega, hdd.set (by omega), HV2.out, HR2.out, HM6.out⟩
              case measure => simp [intOf]
    · obtain rfl : k = 0 := by omega
      obtain rfl : j = -1 := by omega
      obtain ⟨A3, n3, c3, hs3⟩ := HM.out.num.shape
      obtain rfl : s = .slice A3 n3 c3 := by simpa using hs3
      have HQ : Hid (V xs / b = V ds ∧ V xs % b = R) := Lib.hid (div_end (by have := HV.out; simpa using this) hRb)
      have cr := HM.out.rest.cell 0
      have hblk := (Rd.of_row HM.out.row).keep (w' := wr.drew) fun _ _ => rfl
      have hfar := HM.out.far
      have hlt := HM.out.rest.lt
      clear hs3 HV
      go_wp2_with fail
      go_region_held3 (fun w' => w'.cell? ⟨g7, 0, none⟩ = some (.slice A3 n3 c3) ∧ Below w.heap.size w w')
        (first | exact ⟨cr, HM.out.below.drew⟩ | assumption | exact div_keep hS1 (by first | (simp; done) | omega | (simp; omega)) (by first | (simp; done) | omega | (simp; omega)) _ | exact div_keep (div_keep hS1 (by first | (simp; done) | omega | (simp; omega)) (by first | (simp; done) | omega | (simp; omega)) _) (by first | (simp; done) | omega | (simp; omega)) (by first | (simp; done) | omega | (simp; omega)) _)
        (first
          | (go_at_call 39; (with_reducible refine (cut_any _ ds n1 n1 _ HDL.out hblk hdd (by omega) (Nat.le_refl _)).mono ?_); rintro e u1 ⟨v1, rfl, hn1, hb1⟩; obtain ⟨A5, n5, c5, rfl⟩ := hn1.shape; have hq1 := bel_of_drew hb1; have M1 := Lib.hid (HM.out.more hq1); have M1a := M1.out.res1.cell 0; have M1b := M1.out.res2.cell 0; have M1c := M1.out.res1.frozen 0; have M1d := M1.out.res2.frozen 0; have hS1 := div_s M1.out; have N1 := Lib.hid hn1; clear hn1))
      all_goals
        go_wp2_with fail
        exact bodyPost_ret (v := .tuple #[.agg #[.slice A5 n5 c5], .agg #[.slice A3 n3 c3]]) (by simp [results, Try.results27, go_sem, M1a, M1b, M1c, M1d]) rfl
          ⟨_, _, rfl, by rw [HQ.out.1]; exact (((N1.out.old (by simp; omega) _).old (by simp; omega) _).more (by have := HM.out.below.size; simp; omega)), by rw [HQ.out.2]; exact (((M1.out.num.old (by simp; omega) _).old (by simp; omega) _).more (by omega)), (M1.out.below.setCell (by simp; try omega) _).setCell (by simp; try omega) _⟩
theorem div_num {j k : Nat} (v1 v2 : Value) (a b L1 L2 : Nat) (w : World) (h1 : Num w L1 v1 a) (h2 : Num w L2 v2 b) (ha : a < 65536 ^ j) (hb : b < 65536 ^ k) (h0 : 0 < b) (hj : j ≤ 4000 := by omega) (hk : k ≤ 4000 := by omega) :
    Calls Try.prog 27 #[v1, v2] w fun e w' => ∃ v1 v2, e = .returned (.tuple #[v1, v2]) ∧ Num w' w.heap.size v1 (a / b) ∧ Num w' w.heap.size v2 (a % b) ∧ Below w.heap.size w w' := by
  obtain ⟨A1, xs, n1, c1, rfl, hl1, _, hr1, hc1, e1, hn1⟩ := h1.form ha
  obtain ⟨A2, n2, c2, rfl⟩ := h2.shape
  have := div_any A1 xs n1 c1 (.slice A2 n2 c2) b L2 w hl1.out hr1 hc1.1 (by omega) h2 h0 hb hk
  rw [e1.out] at this
  exact this
end Go.Proofs.Ytengcnchjpkhkaa
