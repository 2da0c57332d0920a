/-
  Alias tables: package alias's level.
-/
import Derived.Test.YtcanahjilfnijaaAliF
namespace Go.Proofs.Ytcanahjilfnijaa
open Go.RowKit
set_option maxRecDepth 100000

/-- How long the slice at p is. -/
def lenAt12 (w : World) (p : Addr) : Nat := match w.cell? p with
  | some (.slice _ n _) => n
  | _ => 0
def lens12 (w : World) (g : Nat) : Nat := lenAt12 w ⟨g, 3, none⟩ + lenAt12 w ⟨g, 4, none⟩
theorem lens12_of {W : World} {L g gh gc n t : Nat} {h c o : Nat → Nat} {Al : Option Addr} {kl cl : Nat} {Am : Option Addr} {km cm : Nat} {ls ms : List Nat} (b : Bd12 W L g gh gc n t h c o Al kl cl Am km cm ls ms) : lens12 W g = ls.length + ms.length := by
  have c3 : W.cell? ⟨g, 3, none⟩ = some (.slice Al kl cl) := b.box.cell 3
  have c4 : W.cell? ⟨g, 4, none⟩ = some (.slice Am km cm) := b.box.cell 4
  simp [lens12, lenAt12, c3, c4, b.ll, b.lm]
theorem lens12_en {W : World} {L g gh gc n t : Nat} {h c o : Nat → Nat} {ls ms : List Nat} (b : En12 W L g gh gc n t h c o ls ms) : lens12 W g = ls.length + ms.length := by
  obtain ⟨_, _, _, _, _, _, b⟩ := b
  exact lens12_of b

set_option maxHeartbeats 4000000 in
theorem level12_any {L g gh gc n t : Nat} {l h0 c0 o0 : Nat → Nat} {d0 : Nat → Bool} {ls0 ms0 : List Nat} (w : World) (b : En12 w L g gh gc n t h0 c0 o0 ls0 ms0) (v : Vo l t n h0 c0 o0 d0 ls0 ms0) (hL : L ≤ w.heap.size) (hn : n ≤ 1000000)
    (ht : t < 18446744073709551616) (hcap : ∀ k, k < n → n * l k < 18446744073709551616) :
    Calls Try.prog 23 #[.pointer (some ⟨g, 0, none⟩)] w fun e w' => e = .returned (.tuple #[]) ∧ (∃ h c o d ms, En12 w' L g gh gc n t h c o [] ms ∧ Vo l t n h c o d [] ms) ∧ Below L w w' := by
  have HB0 := Lib.hid b
  have HV0 := Lib.hid v
  have HCAP := Lib.hid hcap
  clear b v hcap
  go_enter Try.func23, Try.ntmps23
  go_wp2_with fail
  go_loopw [2] (fun _ wr => ∃ (h c o : Nat → Nat) (d : Nat → Bool) (ls ms : List Nat), Hid (En12 wr L g gh gc n t h c o ls ms) ∧ Hid (Vo l t n h c o d ls ms) ∧ Hid (Below L w wr)) (fun _ wr => lens12 wr g)
  case atStart => exact ⟨h0, c0, o0, d0, ls0, ms0, HB0, HV0, Lib.hid (Below.refl _ _)⟩
  case round =>
    obtain ⟨h, c, o, d, ls, ms, HB, HV, HBR⟩ := hrel
    have HLR := Lib.hid (lens12_en HB.out)
    rcases List.eq_nil_or_concat ls with hls | ⟨ls', a, hls⟩
    · subst hls
      obtain ⟨Al, kl, cl, Am, km, cm, b⟩ := HB.out
      have e3 := b.box.cell 3
      obtain rfl : kl = 0 := by have := b.ll; simpa using this.symm
      clear b
      go_wp2_with fail
      go_end0
      exact ⟨rfl, ⟨h, c, o, d, ms, HB.out, HV.out⟩, HBR.out⟩
    · subst hls
      rcases List.eq_nil_or_concat ms with hms | ⟨ms', q, hms⟩
      · exact absurd hms (HV.out.much (by simp))
      · subst hms
        rw [List.concat_eq_append, List.concat_eq_append] at HV HB HLR
        obtain ⟨Al, kl, cl, Am, km, cm, b⟩ := HB.out
        obtain ⟨ha, hq, hat, htq, hda, v1⟩ := HV.out.step
        have hne : a ≠ q := by rintro rfl; omega
        have hlen := HV.out.len
        have hhq : h q < 18446744073709551616 := by
          have h1 := HV.out.cap q hq
          have h2 := HCAP.out q hq
          omega
        obtain ⟨kl', rfl⟩ : ∃ k, kl = k + 1 := ⟨ls'.length, by have := b.ll; simpa using this.symm⟩
        obtain ⟨km', rfl⟩ : ∃ k, km = k + 1 := ⟨ms'.length, by have := b.lm; simpa using this.symm⟩
        have hkl : ls'.length = kl' := by have := b.ll; simpa using this
        have hkm : ms'.length = km' := by have := b.lm; simpa using this
        rw [List.length_append, List.length_append, hkl, hkm] at hlen
        simp only [List.length_singleton] at hlen
        obtain ⟨r, rfl, hcl⟩ := own12_some b.lit
        obtain ⟨s, rfl, hcm⟩ := own12_some b.muc
        have e3 := b.box.cell 3
        have e4 := b.box.cell 4
        have f3 := b.box.frozen 3
        have f4 := b.box.frozen 4
        have p3 := own12_last b.lit hkl
        have b1 := (b.step (Below.refl wr.heap.size wr).drew).popl
        have hL1 : Below L w (wr.drew.setCell ⟨g, 3, none⟩ (.slice (some ⟨r, 0, none⟩) kl' cl)) := HBR.out.drew.setCell b.lg _
        have b2 := b1.popm
        have hL2 := hL1.setCell (p := ⟨g, 4, none⟩) b.lg (.slice (some ⟨s, 0, none⟩) km' cm)
        have p4 := own12_last b1.muc hkm
        have m4 := b1.box.cell 4
        have n4 := b1.box.frozen 4
        have HLST := Lib.hid (fun W (h : W.cell? ⟨g, 3, none⟩ = some (.slice (some ⟨r, 0, none⟩) (kl' + 1) cl)) hf hl => last12_any g 3 r kl' cl a W h hf hl hcl (by omega))
        have HLSM := Lib.hid (fun W (h : W.cell? ⟨g, 4, none⟩ = some (.slice (some ⟨s, 0, none⟩) (km' + 1) cm)) hf hl => last12_any g 4 s km' cm q W h hf hl hcm (by omega))
        obtain ⟨w1, hw1⟩ : ∃ w1, wr.drew.setCell ⟨g, 3, none⟩ (.slice (some ⟨r, 0, none⟩) kl' cl) = w1 := ⟨_, rfl⟩
        rw [hw1] at b1 b2 hL1 hL2 p4 m4 n4
        obtain ⟨w2, hw2⟩ : ∃ w2, w1.setCell ⟨g, 4, none⟩ (.slice (some ⟨s, 0, none⟩) km' cm) = w2 := ⟨_, rfl⟩
        rw [hw2] at b2 hL2
        have HW1 := Lib.hid hw1
        have HW2 := Lib.hid hw2
        have HB2 := Lib.hid b2
        have HL1 := Lib.hid hL1
        have HL2 := Lib.hid hL2
        have HV1 := Lib.hid v1
        have HLEN := Lib.hid hlen
        have HAQ := Lib.hid (And.intro ha (And.intro hq (And.intro hat (And.intro htq (And.intro hne hhq)))))
        have hk0 : (0 : Int) < ((kl' + 1 : Nat) : Int) := by omega
        obtain ⟨k1, hk1⟩ : ∃ k1, kl' + 1 = k1 := ⟨_, rfl⟩
        rw [hk1] at e3 hk0 HLST
        clear b b1 b2 hw1 hw2 hL1 hL2 v1 hlen hat htq hne hhq hkl hkm hk1
        go_wp2_with fail
        have HBD := Lib.hid HBR.out.drew
        refine wp_region_held_drew (S := fun W => Below L w W) (by kernel_rfl) HBD.out (fun hHeld => ?_)
        refine wpAnyH_take (i := 0) (v := ?_) (op_of rfl) (by kernel_rfl) (by kernel_rfl) (by kernel_rfl) (fun _ _ _ h => h) (Or.inl ⟨by rfl, fun W hS => ?_⟩) (by assumption) ?_
        rotate_left
        · dsimp only at hS
          go_simp
          try with_reducible rfl
        try dsimp only [Act.put]
        try simp only [List.setIfInBounds_toArray, List.set_cons_zero, List.set_cons_succ]
        refine wpAnyH_take (i := 1) (v := ?_) (op_of rfl) (by kernel_rfl) (by kernel_rfl) (by kernel_rfl) (fun _ _ _ h => h) (Or.inl ⟨by rfl, fun W hS => ?_⟩) (by assumption) ?_
        rotate_left
        · dsimp only at hS
          go_simp
          try with_reducible rfl
        try dsimp only [Act.put]
        try simp only [List.setIfInBounds_toArray, List.set_cons_zero, List.set_cons_succ]
        refine wpAnyH_take (i := 2) (v := ?_) (op_of rfl) (by kernel_rfl) (by kernel_rfl) (by kernel_rfl) (fun _ _ _ h => h) (Or.inl ⟨by rfl, fun W hS => ?_⟩) (by assumption) ?_
        rotate_left
        · dsimp only at hS
          go_simp
          try with_reducible rfl
        try dsimp only [Act.put]
        try simp only [List.setIfInBounds_toArray, List.set_cons_zero, List.set_cons_succ]
        refine wpAnyH_take (i := 4) (v := ?_) (op_of rfl) (by kernel_rfl) (by kernel_rfl) (by kernel_rfl) (fun _ _ _ h => h) (Or.inl ⟨by rfl, fun W hS => ?_⟩) (by assumption) ?_
        rotate_left
        · dsimp only at hS
          go_simp
          try with_reducible rfl
        try dsimp only [Act.put]
        try simp only [List.setIfInBounds_toArray, List.set_cons_zero, List.set_cons_succ]
        refine wpAnyH_take (i := 5) (v := ?_) (op_of rfl) (by kernel_rfl) (by kernel_rfl) (by kernel_rfl) (fun _ _ _ h => h) (Or.inl ⟨by rfl, fun W hS => ?_⟩) (by assumption) ?_
        rotate_left
        · dsimp only at hS
          go_simp
          try with_reducible rfl
        try dsimp only [Act.put]
        try simp only [List.setIfInBounds_toArray, List.set_cons_zero, List.set_cons_succ]
        refine wpAnyH_take (i := 6) (v := ?_) (op_of rfl) (by kernel_rfl) (by kernel_rfl) (by kernel_rfl) (fun _ _ _ h => h) (Or.inl ⟨by rfl, fun W hS => ?_⟩) (by assumption) ?_
        rotate_left
        · dsimp only at hS
          go_simp
          try with_reducible rfl
        try dsimp only [Act.put]
        try simp only [List.setIfInBounds_toArray, List.set_cons_zero, List.set_cons_succ]
        refine wpAnyH_ready (rs := [3]) (by kernel_rfl) (by simp) (AllReadyH.cons (op_of rfl) (fun K hK => ?_) AllReadyH.nil)
        go_simp
        refine (HLST.out wr.drew e3 f3 p3).mono ?_
        rintro en wx ⟨rfl, rfl⟩
        rw [HW1.out]
        have HBS := HL1
        refine hK.out _ _ HBS.out (fun hHeld => ?_)
        clear hK K
        try dsimp only [Act.put]
        try simp only [List.setIfInBounds_toArray, List.set_cons_zero, List.set_cons_succ]
        refine wpAnyH_ready (rs := [7]) (by kernel_rfl) (by simp) (AllReadyH.cons (op_of rfl) (fun K hK => ?_) AllReadyH.nil)
        go_simp
        refine (HLSM.out w1 m4 n4 p4).mono ?_
        rintro en wx ⟨rfl, rfl⟩
        rw [HW2.out]
        have HBS := HL2
        refine hK.out _ _ HBS.out (fun hHeld => ?_)
        clear hK K
        try dsimp only [Act.put]
        try simp only [List.setIfInBounds_toArray, List.set_cons_zero, List.set_cons_succ]
        refine wpAnyH_ready (rs := [8]) (by kernel_rfl) (by simp) (AllReadyH.cons (op_of rfl) (fun K hK => ?_) AllReadyH.nil)
        go_simp
        refine hK.out _ _ HBS.out (fun hHeld => ?_)
        clear hK K
        try dsimp only [Act.put]
        try simp only [List.setIfInBounds_toArray, List.set_cons_zero, List.set_cons_succ]
        refine wpAnyH_ready (rs := [9]) (by kernel_rfl) (by simp) (AllReadyH.cons (op_of rfl) (fun K hK => ?_) AllReadyH.nil)
        go_simp
        refine hK.out _ _ HBS.out (fun hHeld => ?_)
        clear hK K
        try dsimp only [Act.put]
        try simp only [List.setIfInBounds_toArray, List.set_cons_zero, List.set_cons_succ]
        refine wpAnyH_done (by kernel_rfl) ?_ _
        go_wp2_with fail
        have i1 := HB2.out.box.cell 1
        have i2 := HB2.out.box.cell 2
        have j1 := (HB2.out.holds.cells ha).1
        obtain ⟨y0, y1, yf⟩ := HB2.out.cols.cells ha
        have yf0 := yf (a * 2)
        have yf1 := yf (a * 2 + 1)
        obtain ⟨x, hx⟩ : ∃ x, h a = x := ⟨_, rfl⟩
        rw [hx] at j1 HV1 HAQ
        have ha0 : (0 : Int) ≤ (a : Int) := by omega
        have ha1 : (a : Int) < (n : Int) := by omega
        have HB3 := Lib.hid ((HB2.out.putc ha x q).step (Below.refl _ _).drew)
        have HL3 := Lib.hid ((HL2.out.setCell (p := ⟨gc, a * 2, none⟩) HB2.out.lc (.int .u64 (x : Int))).setCell (p := ⟨gc, a * 2 + 1, none⟩) HB2.out.lc (.int .i64 (q : Int))).drew
        obtain ⟨w3, hw3⟩ : ∃ w3, ((w2.setCell ⟨gc, a * 2, none⟩ (.int .u64 (x : Int))).setCell ⟨gc, a * 2 + 1, none⟩ (.int .i64 (q : Int))).drew = w3 := ⟨_, rfl⟩
        rw [hw3] at HB3 HL3
        have HW3 := Lib.hid hw3
        clear yf hw3
        go_region
        go_wp2_with fail
        rw [HW3.out]
        clear i1 i2 j1 y0 y1 yf0 yf1 HB2 HL2 HW3
        have i0 := HB3.out.box.cell 0
        have i1 := HB3.out.box.cell 1
        have j0 := (HB3.out.holds.cells ha).1
        have j1 := (HB3.out.holds.cells hq).1
        have jf := (HB3.out.holds.cells hq).2
        rw [hx] at j0
        obtain ⟨y, hy⟩ : ∃ y, h q = y := ⟨_, rfl⟩
        rw [hy] at j1 HV1 HAQ
        obtain ⟨hxt, hty, hne, hy64⟩ : x < t ∧ t < y ∧ a ≠ q ∧ y < 18446744073709551616 := HAQ.out.2.2
        obtain ⟨e, he⟩ : ∃ e, t - x = e := ⟨_, rfl⟩
        obtain ⟨z, hz⟩ : ∃ z, y - e = z := ⟨_, rfl⟩
        have hwe : IntKind.u64.wrap ((t : Int) - (x : Int)) = (e : Int) := by rw [IntKind.wrap_u64]; omega
        have hwz : IntKind.u64.wrap ((y : Int) - (e : Int)) = (z : Int) := by rw [IntKind.wrap_u64]; omega
        rw [he, hz] at HV1
        have hq0 : (0 : Int) ≤ (q : Int) := by omega
        have hq1 : (q : Int) < (n : Int) := by omega
        have HB4 := Lib.hid ((HB3.out.puth hq z).step (Below.refl _ _).drew)
        have HL4 := Lib.hid (HL3.out.setCell (p := ⟨gh, q, none⟩) HB3.out.lh (.int .u64 (z : Int))).drew
        obtain ⟨w4, hw4⟩ : ∃ w4, (w3.setCell ⟨gh, q, none⟩ (.int .u64 (z : Int))).drew = w4 := ⟨_, rfl⟩
        rw [hw4] at HB4 HL4
        have HW4 := Lib.hid hw4
        have HE := Lib.hid (enlist12_any q w4 HB4.out (by have := HL4.out.size; omega) hq hn (by have := HLEN.out; omega))
        rw [upd_at] at HE
        clear hx hy hxt hty hne hy64 he hz hw4
        go_region
        go_wp2_with fail
        rw [HW4.out]
        refine HE.out.mono ?_
        rintro en w5 ⟨rfl, hen, hb5⟩
        have HL5 := Lib.hid (HL4.out.trans hb5)
        have HEN := Lib.hid hen
        have HM5 := Lib.hid (lens12_en hen)
        have hms : lens12 w5 g < lens12 wr g := by
          rw [HM5.out, HLR.out]
          simp only [List.length_append, List.length_singleton]
          split <;> split <;> simp <;> omega
        have HMS := Lib.hid hms
        clear HE hen hb5 hms
        go_wp2_with fail
        go_roundw
        case rel => exact ⟨_, _, _, _, _, _, HEN, HV1, HL5⟩
        case measure => exact HMS.out
end Go.Proofs.Ytcanahjilfnijaa
