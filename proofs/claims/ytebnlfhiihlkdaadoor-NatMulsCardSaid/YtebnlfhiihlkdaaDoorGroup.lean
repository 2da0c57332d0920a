/-
  Numbers in digits of 32 bits: appendGroup.
-/
import Derived.Test.YtebnlfhiihlkdaaDoorNatI
namespace Go.Proofs.YtebnlfhiihlkdaaDoor
open Go.RowKit
set_option maxRecDepth 100000

/-- What has been multiplied so far: k digits; what is carried. -/
def GrpIn (xs zs : List Nat) (g n k cr : Nat) : Prop :=
  zs.length = n ∧ Dg zs ∧ (∀ j, k ≤ j → nth zs j = nth xs j) ∧ U (zs.take k) + 4294967296 ^ k * cr = g + 1000000000 * U (xs.take k) ∧ cr < 1000000000
theorem GrpIn.step {xs zs : List Nat} {g n k cr : Nat} (h : GrpIn xs zs g n k cr) (hk : k < n) (hx : nth xs k < 4294967296) :
    GrpIn xs (zs.set k ((cr + nth xs k * 1000000000) % 4294967296)) g n (k + 1) ((cr + nth xs k * 1000000000) / 4294967296) := by
  obtain ⟨hl, hd, hzz, hU, hc⟩ := h
  refine ⟨by simp [hl], hd.set (by omega), fun j hj => by rw [nth_set32 (by omega), if_neg (by omega)]; exact hzz j (by omega), ?_, by omega⟩
  rw [U_set_take (by omega), U_take_succ xs, Nat.pow_succ]
  have := Nat.div_add_mod (cr + nth xs k * 1000000000) 4294967296
  generalize (cr + nth xs k * 1000000000) / 4294967296 = q at *
  generalize (cr + nth xs k * 1000000000) % 4294967296 = r at *
  generalize 4294967296 ^ k = P at *
  have e2 : P * (4294967296 * q + r) = P * (cr + nth xs k * 1000000000) := by rw [this]
  grind
theorem GrpIn.done {xs zs : List Nat} {g n cr : Nat} (h : GrpIn xs zs g n n cr) (hx : xs.length = n) : U zs + 4294967296 ^ n * cr = 1000000000 * U xs + g := by
  obtain ⟨hl, hd, hz, hU, _⟩ := h
  rw [U_take_all zs _ (by omega), U_take_all xs _ (by omega)] at hU
  omega

theorem appendGroup_nil (B c g : Nat) (w : World) (hB : B ≤ w.heap.size) (hg : g < 1000000000) :
    Calls Tryd.prog 78 #[.slice none 0 0, .int .u64 (g : Int)] w (AddedOnto w B g) := by
  have HO3 : Hid (World.ownsRow (w.alloc (.cells #[.int .u32 (g : Int)] 77)) B 77 1 (.slice none 0 0) ([] : List Nat).length (u32s [])) := Lib.hid (World.ownsRow_nil _ _ _ _)
  have HR1 : Hid (Ra (w.alloc (.cells #[.int .u32 (g : Int)] 77)) (w.heap.size + 1) (some ⟨w.heap.size, 0, none⟩) [g]) := Lib.hid (Ra.one w g 77)
  by_cases h0 : g = 0
  · subst h0
    go_enter Tryd.func78, Tryd.ntmps78
    go_wp2_with fail
    go_loopw [5, 11] (fun cv iv wr => cv = .int .u64 0 ∧ iv = .int .i64 0 ∧ wr = w) (fun _ _ _ => 0)
    case atStart => exact ⟨rfl, rfl, rfl⟩
    case round =>
      obtain ⟨rfl, rfl, rfl⟩ := hrel
      go_wp2_with fail
      go_ret
      exact ⟨_, [], rfl, Ow.nil _ _, Cn.nil, rfl, Below.refl _ _⟩
  · have hgi : ¬ (g : Int) = 0 := by omega
    go_enter Tryd.func78, Tryd.ntmps78
    go_wp2_with fail
    go_loopw [5, 11] (fun cv iv wr => cv = .int .u64 (g : Int) ∧ iv = .int .i64 0 ∧ wr = w) (fun _ _ _ => 0)
    case atStart => exact ⟨rfl, rfl, rfl⟩
    case round =>
      obtain ⟨rfl, rfl, rfl⟩ := hrel
      have hm : (g : Int) % 4294967296 = (g : Int) := by omega
      go_wp2_with (at_builtin; go_loud (refine wpList_append_u32s _ rfl (.tmp 31) (.tmp 34) 23 rfl B 77 Tryd.underlying23 info_u32 (.slice none 0 0) [] rfl HO3.out (wr.heap.size + 1) (some ⟨wr.heap.size, 0, none⟩) 1 [g] _ rfl rfl HR1.out (by simp) (by simp; omega) ?_); intro A4 n4 c4 w4 hl4 hc4 hown4 hg4)
      go_ret
      have hone : Hid (U [g] = g) := Lib.hid (by simp [U])
      exact ⟨_, [g], rfl, by have := hown4.out; have h2 := hl4.out; simp at h2; subst h2; exact this, Cn.snoc (xs := []) Dg.nil (by omega) (by omega), hone.out, ((Below.refl B wr).alloc (by omega) _).grown hg4 (by simp; omega) (by intro k hk; simp [Value.ownBlock] at hk)⟩

set_option maxHeartbeats 4000000 in
theorem appendGroup_any (B : Nat) (A : Option Addr) (c n g : Nat) (xs : List Nat) (w : World) (hown : Ow w B (.slice A n c) n xs) (hx : Cn xs) (hc : n ≤ c) (hB : B ≤ w.heap.size) (hn : n ≤ 1000000) (hg : g < 1000000000) :
    Calls Tryd.prog 78 #[.slice A n c, .int .u64 (g : Int)] w (AddedOnto w B (1000000000 * U xs + g)) := by
  rcases hown.row with ⟨rfl, rfl, rfl, rfl⟩ | ⟨gb, rfl⟩
  · simpa [U] using appendGroup_nil B 0 g w hB hg
  have hl := hown.len
  have HX := Lib.hid hl
  obtain ⟨R, hw, hBg, hcap, hmax⟩ := hown.win
  have hgl := hw.lt
  have hd : Dg xs := hx.1
  have HCAP := Lib.hid hcap
  have HGE : Hid (xs ≠ [] → 4294967296 ^ (n - 1) ≤ 1000000000 * U xs + g) := Lib.hid (fun h => by have := U_ge hx h; rw [hl] at this; omega)
  have HNE : Hid (xs = [] → n = 0) := Lib.hid (fun h => by rw [h] at hl; simpa using hl.symm)
  clear hl hown hcap
  go_enter Tryd.func78, Tryd.ntmps78
  go_wp2_with fail
  go_loopw [5, 11] (fun cv iv wr => ∃ k cr zs, cv = .int .u64 ((cr : Nat) : Int) ∧ iv = .int .i64 ((k : Nat) : Int) ∧ k ≤ n ∧ GrpIn xs zs g n k cr ∧ Win wr gb 77 [] zs R ∧ w.grownBy wr (some gb)) (fun _ iv _ => n - (intOf iv).toNat)
  case atStart => exact ⟨0, g, xs, rfl, rfl, by omega, ⟨HX.out, hd, fun _ _ => rfl, by simp [U], hg⟩, hw, World.grownBy.refl _ _⟩
  case round =>
    obtain ⟨k, cr, zs, rfl, rfl, hk, hin, hwin, hgr⟩ := hrel
    have HI := Lib.hid hin
    have hcr : cr < 1000000000 := hin.2.2.2.2
    have hzl : Hid (zs.length = n) := Lib.hid hin.1
    have hzk : Hid (k < n → nth zs k = nth xs k) := Lib.hid (fun _ => hin.2.2.1 k (Nat.le_refl k))
    have hxk := hd.nth k
    clear hin
    by_cases hkn : k < n
    · have cz := hwin.cell (o := 0) rfl (k := k) (by have := hzl.out; omega)
      rw [hzk.out hkn] at cz
      simp only [Nat.zero_add] at cz
      have fz := hwin.frozen k
      have hst := Lib.hid (HI.out.step hkn hxk)
      obtain ⟨x, hxx⟩ : ∃ x, nth xs k = x := ⟨_, rfl⟩
      rw [hxx] at cz hxk hst
      have E1 : Hid (((cr : Int) + (x : Int) * 1000000000) % 4294967296 = (((cr + x * 1000000000) % 4294967296 : Nat) : Int)) := Lib.hid (by omega)
      have E2 : Hid (((cr : Int) + (x : Int) * 1000000000) / 4294967296 = (((cr + x * 1000000000) / 4294967296 : Nat) : Int)) := Lib.hid (by omega)
      clear hxx
      go_wp2_with fail
      go_roundw
      case rel => exact ⟨k + 1, _, _, by rw [E2.out], by go_num, by omega, hst.out, by have h := hwin.put (o := 0) (k := k) rfl (by have := hzl.out; omega) E1.out; rwa [Nat.zero_add] at h, wrote_set hgr _ _⟩
      case measure => simp [intOf]; omega
    · obtain rfl : k = n := by omega
      have hfin := Lib.hid (HI.out.done HX.out)
      have how2 : Ow wr B (.slice (some ⟨gb, 0, none⟩) k c) k zs := Ow.of_win hwin hzl.out hBg HCAP.out hmax
      have hB2 : Below B w wr := wrote_below hgr hBg hgl
      have hs2 := hB2.size
      have HOW := Lib.hid how2
      have hzd : Hid (Dg zs) := Lib.hid HI.out.2.1
      have hgw : gb < wr.heap.size := hwin.lt
      clear how2
      by_cases h0 : cr = 0
      · subst h0
        have hcz : Cn zs := Cn.of_ge hzd.out (fun h => by
          have h1 := hfin.out
          have h2 := HGE.out (by rintro rfl; have := HNE.out rfl; have := hzl.out; subst this; exact h (List.eq_nil_of_length_eq_zero (by omega)))
          rw [hzl.out]
          omega)
        go_wp2_with fail
        go_ret
        exact ⟨_, zs, rfl, by rw [hzl.out]; exact HOW.out, hcz, by have := hfin.out; omega, hB2⟩
      · have h0i : ¬ (cr : Int) = 0 := by omega
        have hm : (cr : Int) % 4294967296 = (cr : Int) := by omega
        have HO3 : Hid (World.ownsRow (wr.alloc (.cells #[.int .u32 (cr : Int)] 77)) B 77 1 (.slice (some ⟨gb, 0, none⟩) k c) zs.length (u32s zs)) := Lib.hid (by rw [hzl.out]; exact HOW.out.below ((Below.refl _ wr).alloc (Nat.le_refl _) _))
        have HR1 : Hid (Ra (wr.alloc (.cells #[.int .u32 (cr : Int)] 77)) (wr.heap.size + 1) (some ⟨wr.heap.size, 0, none⟩) [cr]) := Lib.hid (Ra.one wr cr 77)
        have hcz : Cn (zs ++ [cr]) := Cn.snoc hzd.out (by omega) (by omega)
        have HU : Hid (U (zs ++ [cr]) = 1000000000 * U xs + g) := Lib.hid (by rw [U_append, hzl.out]; have := hfin.out; simp only [U, Nat.mul_zero, Nat.add_zero]; omega)
        go_wp2_with (at_builtin; go_loud (refine wpList_append_u32s _ rfl (.tmp 31) (.tmp 34) 23 rfl B 77 Tryd.underlying23 info_u32 (.slice (some ⟨gb, 0, none⟩) k c) zs rfl HO3.out (wr.heap.size + 1) (some ⟨wr.heap.size, 0, none⟩) 1 [cr] _ rfl rfl HR1.out (by have := hzl.out; simp; omega) (by simp; omega) ?_); intro A4 n4 c4 w4 hl4 hc4 hown4 hg4)
        go_ret
        exact ⟨_, zs ++ [cr], rfl, by rw [hl4.out]; exact hown4.out, hcz, HU.out, (hB2.alloc (by omega) _).grown hg4 (by simp; omega) (by intro k hk; simp [Value.ownBlock] at hk; omega)⟩
end Go.Proofs.YtebnlfhiihlkdaaDoor
