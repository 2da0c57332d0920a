/-
  The document's layer 3: In, Out, Same.
  The document's layer 3: is, Bits.
-/
import Derived.Test.YtaifigkbblncpaaGreatDoorNatC
import Derived.Test.YtaifigkbblncpaaGreatDoorNums
import Derived.Deep.RegionLaw
import Derived.Deep.QuietTactic
import Derived.BigQuiet
import Derived.Test.YtaifigkbblncpaaGreatDoorMP
namespace Go.Proofs.YtaifigkbblncpaaGreatDoor
open Go.RowKit
set_option maxRecDepth 100000

/-- Digits of 32 bits, each in two of 16. -/
def halves2 : List Nat → List Nat
  | [] => []
  | d :: r => (d % 65536) :: (d / 65536) :: halves2 r
theorem halves2_V (xs : List Nat) : V (halves2 xs) = U xs := by
  induction xs with
  | nil => rfl
  | cons d r ih => simp only [halves2, V, U, ih]; omega
theorem halves2_app (xs ys : List Nat) : halves2 (xs ++ ys) = halves2 xs ++ halves2 ys := by
  induction xs with
  | nil => rfl
  | cons d r ih => simp only [List.cons_append, halves2, ih]
theorem halves2_len (xs : List Nat) : (halves2 xs).length = 2 * xs.length := by
  induction xs with
  | nil => rfl
  | cons d r ih => simp only [halves2, List.length_cons, ih]; omega
theorem halves2_dig {xs : List Nat} (h : Dg xs) : Dig (halves2 xs) := by
  induction xs with
  | nil => exact Dig.nil
  | cons d r ih =>
    have hd := h d (by simp)
    have hr := ih h.tail
    intro x hx
    simp only [halves2, List.mem_cons] at hx
    rcases hx with rfl | rfl | hx
    · omega
    · omega
    · exact hr x hx

structure InMem (w : World) (ds : List Nat) (v : Value) (W : World) : Prop where
  below : Below w.heap.size w W
  res : Blk W w.heap.size 33 #[.slice none 0 0]
  own : W.ownsRow (w.heap.size + 1) 3 1 v ds.length (ints ds)
theorem InMem.grown {w W W' : World} {ds es : List Nat} {v v' : Value} (h : InMem w ds v W) (o : Obj) (hg : ((W.alloc o).drew).grownBy W' v.ownBlock) (hown : W'.ownsRow (w.heap.size + 1) 3 1 v' es.length (ints es)) : InMem w es v' W' := by
  have hs := h.below.size
  have hr := h.res.lt
  have hrow : ∀ k, v.ownBlock = some k → w.heap.size + 1 ≤ k := fun k hk => (World.ownsRow.lt h.own k hk).1
  refine ⟨((h.below.alloc hs o).drew).grown hg (by simp; omega) (fun k hk => by have := hrow k hk; omega), ?_, hown⟩
  exact Blk.grown (w := (W.alloc o).drew) (h.res.alloc o) hg (fun e => by have := hrow _ e.symm; omega)

theorem Rd.lit (w : World) (t : TypeId) (xs : List Nat) : Rd (w.alloc (.cells (ints xs).toArray t)) (w.heap.size + 1) (some ⟨w.heap.size, 0, none⟩) xs := fun _ =>
  ⟨w.heap.size, 0, rfl, by omega, fun k hk => by
    rw [(Blk.new w t (ints xs).toArray).cell (0 + k), Nat.zero_add]
    simpa using ints_get hk⟩
theorem Rd.drew {w : World} {B : Nat} {A : Option Addr} {xs : List Nat} (h : Rd w B A xs) : Rd w.drew B A xs := h

set_option maxHeartbeats 4000000 in
theorem in_any (A : Option Addr) (xs : List Nat) (n c : Nat) (w : World) (hl : xs.length = n) (hr : Ra w w.heap.size A xs) (hd : Dg xs) (hn : n ≤ 100000) :
    Calls Tryz.prog 30 #[.slice A n c] w (RetNum w (U xs)) := by
  have HL := Lib.hid hl
  clear hl
  go_enter Tryz.func30, Tryz.ntmps30
  go_wp2_with fail
  go_loopw [3, 4] (fun v iv wr => ∃ (k : Nat) (A' : Option Addr) (n' c' : Nat), iv = .int .i64 (k : Int) ∧ k ≤ n ∧ v = .slice A' n' c' ∧ n' = 2 * k ∧ n' ≤ c' ∧ InMem w (halves2 (xs.take k)) (.slice A' n' c') wr) (fun _ iv _ => n - (intOf iv).toNat)
  case atStart => exact ⟨0, none, 0, 0, rfl, by omega, rfl, rfl, Nat.le_refl _, (Below.refl _ _).alloc (Nat.le_refl _) _, Blk.new _ _ _, World.ownsRow_nil _ _ _ _⟩
  case round =>
    obtain ⟨k, A', n', c', rfl, hk, rfl, hn', hc', hm⟩ := hrel
    have HM := Lib.hid hm
    have HN := Lib.hid hn'
    have hB := hm.below
    clear hm hn'
    by_cases hkn : k < n
    · obtain ⟨b, o, hA, _, cx⟩ := (hr.below hB (Nat.le_refl _)).at_ (k := k) (by have := HL.out; omega)
      subst hA
      have hxk := hd.nth k
      have hk0 : (0 : Int) ≤ (k : Int) := by omega
      have hk1 : (k : Int) < (n : Int) := by omega
      have HLE : Hid ((halves2 (xs.take k)).length = n') := Lib.hid (by have := HL.out; have := HN.out; rw [halves2_len]; simp; omega)
      obtain ⟨x, hx⟩ : ∃ x, nth xs k = x := ⟨_, rfl⟩
      rw [hx] at cx hxk
      have HX := Lib.hid hx
      clear hx
      have em : (x : Int).tmod 65536 = ((x % 65536 : Nat) : Int) := by rw [Int.tmod_eq_emod_of_nonneg (by omega)]; omega
      have ed : (x : Int).tdiv 65536 = ((x / 65536 : Nat) : Int) := by rw [Int.tdiv_eq_ediv_of_nonneg (by omega)]; omega
      obtain ⟨r, hr0⟩ : ∃ r, x % 65536 = r := ⟨_, rfl⟩
      obtain ⟨q, hq0⟩ : ∃ q, x / 65536 = q := ⟨_, rfl⟩
      rw [hr0] at em
      rw [hq0] at ed
      have hrb : r < 65536 := by omega
      have hqb : q < 65536 := by omega
      have HST : Hid (halves2 (xs.take k) ++ [r, q] = halves2 (xs.take (k + 1))) := Lib.hid (by rw [take_snoc xs k (by have := HL.out; omega), halves2_app, HX.out]; simp [halves2, hr0, hq0])
      have w1 : IntKind.u32.wrap (r : Int) = r := IntWalk.u32_in _ (by omega)
      have w2 : IntKind.u32.wrap (q : Int) = q := IntWalk.u32_in _ (by omega)
      have w3 : IntKind.i64.wrap (r : Int) = r := IntWalk.i64_in _ (by omega)
      have w4 : IntKind.i64.wrap (q : Int) = q := IntWalk.i64_in _ (by omega)
      have HO : Hid (((wr.alloc (.cells (ints [r, q]).toArray 3)).drew).ownsRow (w.heap.size + 1) 3 1 (.slice A' n' c') (halves2 (xs.take k)).length (ints (halves2 (xs.take k)))) := Lib.hid (World.ownsRow.drew (World.ownsRow.alloc HM.out.own _))
      have HR := Lib.hid (Rd.lit wr 3 [r, q]).drew
      have hsz : w.heap.size + 1 ≤ wr.heap.size := by have := HM.out.res.lt; omega
      clear hr0 hq0
      go_wp2_with fail
      go_region_law (refine step_append_ints _ (by rfl) _ _ _ (by rfl) (w.heap.size + 1) 3 Tryz.underlying31 info_int _ (halves2 (xs.take k)) (by rfl) HO.out (wr.heap.size + 1) (some ⟨wr.heap.size, 0, none⟩) 2 [r, q] 2 (by rfl) (by rfl) HR.out (by have := HLE.out; have := HN.out; simp; omega) (by simp; omega) ?_; intro A2 n2 c2 w2 hl2 hc2 hown2 hg2)
      all_goals
        rw [HST.out] at hl2 hown2
        have hn2 : n2 = 2 * (k + 1) := by have := hl2.out; rw [halves2_len] at this; simp at this; have := HL.out; omega
        have HM2 := Lib.hid (HM.out.grown _ hg2 (by rw [hl2.out]; exact hown2.out))
        have HN2 := Lib.hid hn2
        clear hn2 hl2 hown2 hg2 em ed w1 w3 w4 HO HR
        go_wp2_with fail
        go_roundw
        case rel => exact ⟨k + 1, A2, n2, c2, by go_num, by omega, rfl, HN2.out, hc2, HM2.out⟩
        case measure => simp [intOf]; omega
    · obtain rfl : k = n := by omega
      have HLE : Hid ((halves2 xs).length = n') := Lib.hid (by have := HL.out; have := HN.out; rw [halves2_len]; omega)
      have hte : xs.take k = xs := List.take_of_length_le (by have := HL.out; omega)
      rw [hte] at HM
      have hrd := Rd.of_own (by have := HM.out.own; rwa [HLE.out] at this)
      have hdg := halves2_dig hd
      have hnn : n' ≤ 1000000 := by have := HN.out; omega
      clear hte
      go_wp2_with fail
      refine (cut_any A' (halves2 xs) n' c' wr HLE.out hrd hdg hnn hc').mono ?_
      rintro e w3 ⟨v, rfl, hn3, hb3⟩
      obtain ⟨A3, n3, c3, rfl⟩ := hn3.shape
      have hres := HM.out.res.below hb3 HM.out.res.lt
      have hcell := hres.cell 0
      have hfro := hres.frozen 0
      have HN3 := Lib.hid hn3
      have hlt := HM.out.res.lt
      have hBs := hB.size
      clear hn3
      go_wp2_with fail
      exact bodyPost_ret (v := .agg #[.slice A3 n3 c3]) (by simp [results, Tryz.results30, go_sem, hcell, hfro]) rfl
        ⟨_, rfl, by rw [← halves2_V]; exact (HN3.out.old (by simp; omega) _).more hBs, (hB.trans (hb3.mono hBs)).setCell (by simp) _⟩

/-- Digits of 16 bits, two in one of 32. -/
def join2 : List Nat → List Nat
  | [] => []
  | [d] => [d]
  | d :: e :: r => (d + 65536 * e) :: join2 r
theorem join2_U : ∀ xs : List Nat, U (join2 xs) = V xs
  | [] => rfl
  | [d] => by simp [join2, U, V]
  | d :: e :: r => by simp only [join2, U, V, join2_U r]; omega
theorem join2_len : ∀ xs : List Nat, (join2 xs).length = (xs.length + 1) / 2
  | [] => rfl
  | [d] => by simp [join2]
  | d :: e :: r => by simp only [join2, List.length_cons, join2_len r]; omega
theorem join2_dg : ∀ {xs : List Nat}, Dig xs → Dg (join2 xs)
  | [], _ => Dg.nil
  | [d], h => fun x hx => by have := h d (by simp); simp [join2] at hx; omega
  | d :: e :: r, h => fun x hx => by
    have h1 := h d (by simp)
    have h2 := h e (by simp)
    simp only [join2, List.mem_cons] at hx
    rcases hx with rfl | hx
    · omega
    · exact join2_dg (xs := r) h.tail.tail x hx
theorem join2_nth : ∀ (xs : List Nat) (k : Nat), nth (join2 xs) k = nth xs (2 * k) + 65536 * nth xs (2 * k + 1)
  | [], k => by rw [join2, nth_out (by simp), nth_out (by simp), nth_out (by simp)]
  | [d], 0 => by rw [join2, nth_out (xs := [d]) (i := 2 * 0 + 1) (by simp)]; rfl
  | [d], k + 1 => by rw [join2, nth_out (by simp), nth_out (by simp; omega), nth_out (by simp)]
  | d :: e :: r, 0 => by rw [join2, nth_cons0, nth_cons0, show 2 * 0 + 1 = 0 + 1 from rfl, nth_cons, nth_cons0]
  | d :: e :: r, k + 1 => by
    rw [join2, nth_cons, join2_nth r k, show 2 * (k + 1) = 2 * k + 1 + 1 by omega, nth_cons, nth_cons, nth_cons, nth_cons]
theorem Cn.of_big {zs : List Nat} (h : Dg zs) (hz : zs ≠ [] → 4294967296 ^ (zs.length - 1) ≤ U zs) : Cn zs := by
  refine ⟨h, fun hne h0 => ?_⟩
  have h1 := hz hne
  have hlen := List.length_pos_iff.2 hne
  have h2 := U_take_succ zs (zs.length - 1)
  rw [U_take_all zs _ (by omega), h0] at h2
  have h3 := U_lt (h.take (zs.length - 1))
  rw [show (zs.take (zs.length - 1)).length = zs.length - 1 by simp] at h3
  omega
theorem join2_can {xs : List Nat} (h : Can xs) : Cn (join2 xs) := Cn.of_big (join2_dg h.1) fun hne => by
  have hx : xs ≠ [] := by rintro rfl; exact hne rfl
  have h1 := V_ge h hx
  have hl := List.length_pos_iff.2 hx
  rw [join2_U, join2_len, show (4294967296 : Nat) = 65536 ^ 2 by decide, ← Nat.pow_mul]
  have := Nat.pow_le_pow_right (show 0 < 65536 by omega) (show 2 * ((xs.length + 1) / 2 - 1) ≤ xs.length - 1 by omega)
  omega

set_option maxHeartbeats 4000000 in
theorem out_any (A : Option Addr) (xs : List Nat) (n c : Nat) (w : World) (hl : xs.length = n) (hr : Rd w w.heap.size A xs) (hd : Can xs) (hn : n ≤ 1000000) :
    Calls Tryz.prog 27 #[.agg #[.slice A n c]] w (RetNv w (V xs)) := by
  have HL := Lib.hid hl
  have HD := Lib.hid hd
  obtain ⟨N, hN⟩ : ∃ N, (n + 1) / 2 = N := ⟨_, rfl⟩
  have HJL : Hid ((join2 xs).length = N) := Lib.hid (by rw [join2_len, hl, hN])
  have hN1 : n ≤ 2 * N := by omega
  have hN2 : 2 * N ≤ n + 1 := by omega
  clear hl hd hN
  go_enter Tryz.func27, Tryz.ntmps27
  go_wp2_with fail
  go_loopw [3, 4] (fun v iv wr => ∃ (k : Nat) (A' : Option Addr) (c' : Nat), iv = .int .i64 ((2 * k : Nat) : Int) ∧ k ≤ N ∧ v = .slice A' k c' ∧ k ≤ c' ∧ Ow wr (w.heap.size + 1) (.slice A' k c') k ((join2 xs).take k) ∧ Blk wr w.heap.size 33 #[.slice A n c] ∧ Below w.heap.size w wr)
    (fun _ iv _ => 2 * N - (intOf iv).toNat)
  case atStart => exact ⟨0, none, 0, rfl, by omega, rfl, Nat.le_refl _, Ow.nil _ _, Blk.new _ _ _, (Below.refl _ _).alloc (Nat.le_refl _) _⟩
  case round =>
    obtain ⟨k, A', c', rfl, hk, rfl, hc', how, hbk, hB⟩ := hrel
    have HOW := Lib.hid how
    have HBK := Lib.hid hbk
    have cb := hbk.cell 0
    have hBs := hbk.lt
    clear how hbk
    by_cases hkn : k < N
    · obtain ⟨b, o, hA, _, cx⟩ := (hr.below hB (Nat.le_refl _)).at_ (k := 2 * k) (by have := HL.out; omega)
      subst hA
      have hxk := HD.out.1.nth (2 * k)
      have hyk := HD.out.1.nth (2 * k + 1)
      have hk0 : (0 : Int) ≤ ((2 * k : Nat) : Int) := by omega
      have hk1 : ((2 * k : Nat) : Int) < (n : Int) := by omega
      have hto : (((2 * k : Nat) : Int)).toNat = 2 * k := by omega
      have HST : Hid ((join2 xs).take k ++ [nth xs (2 * k) + 65536 * nth xs (2 * k + 1)] = (join2 xs).take (k + 1)) := Lib.hid (by rw [take_snoc _ k (by have := HJL.out; omega), join2_nth])
      have HTL : Hid (((join2 xs).take k).length = k) := Lib.hid (by have := HJL.out; simp; omega)
      obtain ⟨t, ht⟩ : ∃ t, 2 * k = t := ⟨_, rfl⟩
      have HT := Lib.hid ht
      rw [ht] at cx hxk hyk hk0 hk1 hto HST ⊢
      clear ht
      obtain ⟨z, hz⟩ : ∃ z, nth xs t + 65536 * nth xs (t + 1) = z := ⟨_, rfl⟩
      rw [hz] at HST
      have hzb : z < 4294967296 := by omega
      have HO3 : Hid (World.ownsRow (wr.alloc (.cells #[.int .u32 (z : Int)] 53)) (w.heap.size + 1) 53 1 (.slice A' k c') ((join2 xs).take k).length (u32s ((join2 xs).take k))) := Lib.hid (by rw [HTL.out]; exact HOW.out.below ((Below.refl _ wr).alloc (Nat.le_refl _) _))
      have HR1 : Hid (Ra (wr.alloc (.cells #[.int .u32 (z : Int)] 53)) (wr.heap.size + 1) (some ⟨wr.heap.size, 0, none⟩) [z]) := Lib.hid (Ra.one wr z 53)
      by_cases hlast : t + 1 < n
      · obtain ⟨b2, o2, hA2, _, cy⟩ := (hr.below hB (Nat.le_refl _)).at_ (k := t + 1) (by have := HL.out; omega)
        injection hA2 with hA2
        injection hA2 with e1 e2
        subst e1 e2
        have hzi : (nth xs t : Int) + (nth xs (t + 1) : Int) * 65536 = (z : Int) := by omega
        clear hz
        go_wp2_with (at_builtin; go_loud (refine wpList_append_u32s _ rfl (.tmp 35) (.tmp 37) 23 rfl (w.heap.size + 1) 53 Tryz.underlying23 info_u32 (.slice A' k c') ((join2 xs).take k) rfl HO3.out (wr.heap.size + 1) (some ⟨wr.heap.size, 0, none⟩) 1 [z] _ rfl rfl HR1.out (by have := HTL.out; simp; omega) (by simp; omega) ?_); intro A4 n4 c4 w4 hl4 hc4 hown4 hg4)
        rw [HST.out] at hl4 hown4
        have hn4 : n4 = k + 1 := by have := hl4.out; have := HJL.out; simp at *; omega
        subst hn4
        have hrow : ∀ g, (Value.slice A' k c').ownBlock = some g → w.heap.size + 1 ≤ g := fun g hg => (World.ownsRow.lt HOW.out g hg).1
        have HB4 := Lib.hid (Blk.grown (HBK.out.alloc _) hg4 (fun e => by have := hrow _ e.symm; omega))
        have hB4 := (hB.alloc (by omega) _).grown hg4 (by simp; omega) (fun g hg => by have := hrow g hg; omega)
        clear HO3 HR1 hl4 hg4
        go_roundw
        case rel => exact ⟨k + 1, A4, c4, by rw [show ((2 * (k + 1) : Nat) : Int) = (t : Int) + 2 by have := HT.out; omega], by omega, rfl, hc4, hown4.out, HB4.out, hB4⟩
        case measure => simp [intOf]; have := HT.out; omega
      · have hz0 : nth xs (t + 1) = 0 := nth_out (by have := HL.out; omega)
        obtain rfl : nth xs t = z := by omega
        clear hz hz0
        go_wp2_with (at_builtin; go_loud (refine wpList_append_u32s _ rfl (.tmp 35) (.tmp 37) 23 rfl (w.heap.size + 1) 53 Tryz.underlying23 info_u32 (.slice A' k c') ((join2 xs).take k) rfl HO3.out (wr.heap.size + 1) (some ⟨wr.heap.size, 0, none⟩) 1 [nth xs t] _ rfl rfl HR1.out (by have := HTL.out; simp; omega) (by simp; omega) ?_); intro A4 n4 c4 w4 hl4 hc4 hown4 hg4)
        rw [HST.out] at hl4 hown4
        have hn4 : n4 = k + 1 := by have := hl4.out; have := HJL.out; simp at *; omega
        subst hn4
        have hrow : ∀ g, (Value.slice A' k c').ownBlock = some g → w.heap.size + 1 ≤ g := fun g hg => (World.ownsRow.lt HOW.out g hg).1
        have HB4 := Lib.hid (Blk.grown (HBK.out.alloc _) hg4 (fun e => by have := hrow _ e.symm; omega))
        have hB4 := (hB.alloc (by omega) _).grown hg4 (by simp; omega) (fun g hg => by have := hrow g hg; omega)
        clear HO3 HR1 hl4 hg4
        go_roundw
        case rel => exact ⟨k + 1, A4, c4, by rw [show ((2 * (k + 1) : Nat) : Int) = (t : Int) + 2 by have := HT.out; omega], by omega, rfl, hc4, hown4.out, HB4.out, hB4⟩
        case measure => simp [intOf]; have := HT.out; omega
    · obtain rfl : k = N := by omega
      have hf : (join2 xs).take k = join2 xs := List.take_of_length_le (by have := HJL.out; omega)
      have HF := Lib.hid hf
      have hend : ¬ ((2 * k : Nat) : Int) < (n : Int) := by omega
      clear hf
      go_wp2_with fail
      go_ret
      have h1 := HOW.out
      rw [HF.out] at h1
      have h2 := (h1.nv hc' (join2_can HD.out)).more (Nat.le_succ w.heap.size)
      rw [join2_U] at h2
      exact ⟨_, rfl, h2, hB⟩

set_option maxHeartbeats 2000000 in
theorem same_any (A1 A2 : Option Addr) (xs ys : List Nat) (n1 c1 n2 c2 : Nat) (w : World) (hl1 : xs.length = n1) (hl2 : ys.length = n2) (hr1 : Ra w w.heap.size A1 xs) (hr2 : Ra w w.heap.size A2 ys) (hn : n1 ≤ 1000000) :
    Calls Tryz.prog 18 #[.slice A1 n1 c1, .slice A2 n2 c2] w fun e w' => e = .returned (.bool (decide (xs = ys))) ∧ Below w.heap.size w w' := by
  have HL1 := Lib.hid hl1
  have HL2 := Lib.hid hl2
  obtain ⟨z, hz⟩ : ∃ z, decide (xs = ys) = z := ⟨_, rfl⟩
  rw [hz]
  have HZ := Lib.hid hz
  clear hl1 hl2 hz
  by_cases hlen : n1 = n2
  · subst hlen
    go_enter Tryz.func18, Tryz.ntmps18
    go_wp2_with fail
    go_loopw [5] (fun iv wr => ∃ k : Nat, iv = .int .i64 (k : Int) ∧ k ≤ n1 ∧ (∀ j, j < k → nth xs j = nth ys j) ∧ Below w.heap.size w wr) (fun iv _ => n1 - (intOf iv).toNat)
    case atStart => exact ⟨0, rfl, by omega, fun j hj => by omega, Below.refl _ _⟩
    case round =>
      obtain ⟨k, rfl, hk, heq, hB⟩ := hrel
      have HE := Lib.hid heq
      clear heq
      by_cases hkn : k < n1
      · obtain ⟨b1, o1, hA1, _, cx⟩ := (hr1.below hB (Nat.le_refl _)).at_ (k := k) (by have := HL1.out; omega)
        obtain ⟨b2, o2, hA2, _, cy⟩ := (hr2.below hB (Nat.le_refl _)).at_ (k := k) (by have := HL2.out; omega)
        subst hA1 hA2
        have hk0 : (0 : Int) ≤ (k : Int) := by omega
        have hk1 : (k : Int) < (n1 : Int) := by omega
        by_cases hne : nth xs k = nth ys k
        · have h1 : (((nth xs k : Nat) : Int) != ((nth ys k : Nat) : Int)) = false := by simp [hne]
          have HN := Lib.hid hne
          clear hne
          go_wp2_with fail
          go_quiet (fail)
          go_wp2_with fail
          go_roundw
          case rel => exact ⟨k + 1, by go_num, by omega, fun j hj => by
            rcases Nat.lt_or_ge j k with h | h
            · exact HE.out j h
            · rw [show j = k by omega]; exact HN.out, hB.trans ((below_drewN _).mono hB.size)⟩
          case measure => simp [intOf]; omega
        · have h1 : (((nth xs k : Nat) : Int) != ((nth ys k : Nat) : Int)) = true := by simp; omega
          obtain rfl : z = false := by
            rw [← HZ.out]
            exact decide_eq_false (fun e => hne (by rw [e]))
          clear hne
          go_wp2_with fail
          go_quiet (fail)
          go_wp2_with fail
          go_ret
          exact ⟨rfl, hB.trans ((below_drewN _).mono hB.size)⟩
      · obtain rfl : k = n1 := by omega
        obtain rfl : z = true := by
          rw [← HZ.out]
          refine decide_eq_true (List.ext_getElem (by rw [HL1.out, HL2.out]) fun i h1 h2 => ?_)
          have := HE.out i (by have := HL1.out; omega)
          rwa [nth_in h1, nth_in h2] at this
        go_wp2_with fail
        go_ret
        exact ⟨rfl, hB⟩
  · obtain rfl : z = false := by
      rw [← HZ.out]
      exact decide_eq_false (fun e => hlen (by rw [← HL1.out, ← HL2.out, e]))
    go_enter Tryz.func18, Tryz.ntmps18
    go_wp2_with fail
    go_ret
    exact ⟨rfl, Below.refl _ _⟩
end Go.Proofs.YtaifigkbblncpaaGreatDoor

namespace Go.Proofs.YtaifigkbblncpaaGreatDoor
open Go.RowKit
set_option maxRecDepth 100000

structure BitsMem (w : World) (s0 : Value) (g : Nat) (s : Value) (a : Nat) (W : World) : Prop where
  below : Below w.heap.size w W
  one : Blk W w.heap.size 33 #[s0]
  two : Blk W g 33 #[s]
  far : w.heap.size < g
  num : Num W 0 (.agg #[s]) a
theorem BitsMem.more {w W W' : World} {s0 s : Value} {g a : Nat} (h : BitsMem w s0 g s a W) (hb : Below W.heap.size W W') : BitsMem w s0 g s a W' :=
  ⟨h.below.trans (hb.mono h.below.size), h.one.below hb h.one.lt, h.two.below hb h.two.lt, h.far, h.num.below hb⟩
theorem BitsMem.put {w W : World} {s0 s s' : Value} {g a b L : Nat} (h : BitsMem w s0 g s a W) (hn : Num W L (.agg #[s']) b) (hL : g < L) : BitsMem w s0 g s' b (W.setCell ⟨g, 0, none⟩ s') :=
  ⟨h.below.setCell (by have := h.far; simp; omega) _, h.one.far (by have := h.far; simp; omega) _, h.two.set_ 0 s', h.far, (hn.old (by simpa using hL) _).more (Nat.zero_le _)⟩

theorem pow_two_small {a k j : Nat} (ha : a < 65536 ^ j) (hk : k = 0 ∨ 2 ^ (k - 1) ≤ a) : 2 ^ k < 65536 ^ (j + 1) := by
  have h1 : 0 < 65536 ^ j := Nat.pow_pos (by omega)
  rw [Nat.pow_succ]
  rcases hk with rfl | hk
  · rw [Nat.pow_zero]; omega
  · cases k with
    | zero => rw [Nat.pow_zero]; omega
    | succ k => rw [Nat.pow_succ]; rw [Nat.add_sub_cancel] at hk; omega
theorem pow_two_steps {a k j : Nat} (ha : a < 65536 ^ j) (hk : k = 0 ∨ 2 ^ (k - 1) ≤ a) : k ≤ 16 * j + 1 := by
  rcases hk with rfl | hk
  · omega
  · rcases Nat.lt_or_ge (16 * j) (k - 1) with h | h
    · have := Nat.pow_le_pow_right (show 0 < 2 by omega) (Nat.le_of_lt h)
      rw [Nat.pow_mul] at this
      have e : (2 : Nat) ^ 16 = 65536 := by decide
      rw [e] at this
      omega
    · omega

end Go.Proofs.YtaifigkbblncpaaGreatDoor
