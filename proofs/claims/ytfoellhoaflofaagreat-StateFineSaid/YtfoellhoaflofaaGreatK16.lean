/-
  SaidStateFine, part 16 of 24: what the theorem stateFine_holds reaches.
-/
import Derived.Test.YtfoellhoaflofaaGreatK15
namespace Go.Proofs.YtfoellhoaflofaaGreat
open Go.RowKit Go.Shelf Go.Sort
set_option maxRecDepth 100000
theorem fl14_ints (xs : List Int) : fl14 clI xs = xs.map (Value.int .i64) := by
  induction xs with
  | nil => rfl
  | cons x r ih =>
    have : fl14 clI (x :: r) = clI x ++ fl14 clI r := by simp [fl14]
    rw [this, ih]
    rfl
set_option maxHeartbeats 1000000 in
theorem collect14 (Bs lb N c : Nat) (A : Option Addr) (zs : List Int) (w : World) (hl : zs.length = N) (hi : Zq14 w lb A zs) (hlb : lb < w.heap.size) (hN : N ≤ 100000) (hb : w.cell? ⟨Bs, 0, none⟩ = some (.slice A N c)) :
    Calls Tryz.prog 116 #[.func (.func 118) #[] #[.pointer (some ⟨Bs, 0, none⟩)]] w (RetZ w zs) := by
  have HA := Lib.hid (appendSeq14 Bs lb N c A zs w hl hi hlb hN hb)
  clear hl hi hlb hb
  go_enter Tryz.func116, Tryz.ntmps116
  go_wp2_with fail
  refine HA.out.mono ?_
  rintro e w2 ⟨A2, c2, rfl, ho, hb2⟩
  have HO := Lib.hid ho
  have HB := Lib.hid hb2
  clear HA ho hb2
  go_wp2_with fail
  go_ret
  exact ⟨A2, c2, rfl, HO.out, HB.out⟩
/-- Sorted. -/
def srt14 (zs : List Int) : List Int := zs.mergeSort fun x y => decide (x ≤ y)
theorem srt14_len (zs : List Int) : (srt14 zs).length = zs.length := by simp [srt14]
theorem sort14 {w1 w : World} {base : Nat} {A : Option Addr} {N c : Nat} {zs : List Int} (hl : zs.length = N) (hN : N ≤ 100000) (ho : w.ownsRow base 3 1 (.slice A N c) N (fl14 clI zs)) :
    Calls Tryz.prog 117 #[.slice A N c] w fun e w' => e = .returned (.tuple #[]) ∧ Lq clI w' w'.heap.size A (srt14 zs) ∧ Below base w w' := by
  by_cases hz : zs = []
  · subst hz
    obtain rfl : N = 0 := by simpa using hl.symm
    have h : Calls Tryz.prog 117 #[.slice A 0 c] w fun e w' => e = .returned (.tuple #[]) ∧ w' = w := Any.slices_Sort_int_none Tryz.laysNm189 A c w
    refine h.mono ?_
    rintro e w' ⟨rfl, rfl⟩
    rw [show srt14 [] = [] by simp [srt14]]
    exact ⟨rfl, Lq.nil _ _ _ _, ⟨rfl, rfl, rfl, Nat.le_refl _, fun _ _ => rfl⟩⟩
  · have hpos : 0 < N := by rw [← hl]; exact List.length_pos_iff.2 hz
    rcases ho.2 with ⟨_, h0⟩ | ⟨g, cap, cur, hv, hg, hh, hnc, hcm, hcs, htk⟩
    · omega
    · injection hv with hA _ hc
      subst hA hc
      rw [Nat.mul_one] at htk
      have hh1 := holds_of_blockI (ss := zs) hh (by rw [hl, htk, fl14_ints])
      have h : Calls Tryz.prog 117 #[.slice (some ⟨g, 0, none⟩) zs.length c] w fun e w' => e = .returned (.tuple #[]) ∧ ∃ n os, w' = grow (putRow (Value.int .i64) (Sort.ahead w n) g 0 (zs.mergeSort fun x y => decide (x ≤ y)).toArray) os :=
        Any.slices_Sort_int Tryz.laysNm189 g 0 c zs w hh1 (Array.getElem?_eq_some_iff.1 hh).1 (by omega)
      rw [hl] at h
      refine h.mono ?_
      rintro e w' ⟨rfl, n, os, rfl⟩
      have hgr : w.grownBy (grow (putRow (Value.int .i64) (Sort.ahead w n) g 0 (zs.mergeSort fun x y => decide (x ≤ y)).toArray) os) (some g) := grownBy_sortedI _
      have hs := ownsRow_sortedI (n := n) (os := os) (ss := zs) (ts := srt14 zs) (srt14_len zs) hg hh (by omega) hcm hcs
      rw [← fl14_ints, hl] at hs
      exact ⟨rfl, Lq.of_own (by omega) hs, ⟨hgr.os, hgr.tape, hgr.output, hgr.size, fun k hk => hgr.block k (by have := (Array.getElem?_eq_some_iff.1 hh).1; omega) (fun e => by injection e with e; omega)⟩⟩
set_option maxHeartbeats 1000000 in
theorem sorted14 (Bs lb N c : Nat) (A : Option Addr) (zs : List Int) (w : World) (hl : zs.length = N) (hi : Zq14 w lb A zs) (hlb : lb < w.heap.size) (hN : N ≤ 100000) (hb : w.cell? ⟨Bs, 0, none⟩ = some (.slice A N c)) :
    Calls Tryz.prog 95 #[.func (.func 118) #[] #[.pointer (some ⟨Bs, 0, none⟩)]] w fun e w' => ∃ A2 c2, e = .returned (.slice A2 N c2) ∧ Lq clI w' w'.heap.size A2 (srt14 zs) ∧ Below w.heap.size w w' := by
  have HC := Lib.hid (collect14 Bs lb N c A zs w hl hi hlb hN hb)
  have HL := Lib.hid hl
  clear hl hi hlb hb
  go_enter Tryz.func95, Tryz.ntmps95
  go_wp2_with fail
  refine HC.out.mono ?_
  rintro e w2 ⟨A2, c2, rfl, ho, hb2⟩
  rw [HL.out] at ho ⊢
  have HS := Lib.hid (sort14 (w1 := w) HL.out hN ho)
  have HB := Lib.hid hb2
  clear HC ho hb2
  go_wp2_with fail
  refine HS.out.mono ?_
  rintro e w3 ⟨rfl, hq, hb3⟩
  have HQ := Lib.hid hq
  have HB3 := Lib.hid (HB.out.trans hb3)
  clear HS hq hb3
  go_wp2_with fail
  go_ret
  exact ⟨A2, c2, rfl, HQ.out, HB3.out⟩
instance (S : Sv14) (i : Nat) (t : Th14) : Decidable (Queues14 S i t) := by unfold Queues14; infer_instance
/-- Who ought to stand in the Queue, of the first k. -/
def want14 (S : Sv14) : Nat → List Int
  | 0 => []
  | k + 1 => want14 S k ++ if Queues14 S k (gt14 S.H k) then [(k : Int)] else []
theorem want14_len (S : Sv14) (k : Nat) : (want14 S k).length ≤ k := by
  induction k with
  | zero => exact Nat.le_refl _
  | succ k ih => rw [want14, List.length_append]; split <;> simp <;> omega
/-- Is a thread Calling one that is Listening? -/
def Heard14 (S : Sv14) (t : Th14) : Prop := t.s = 4 ∧ (at14 usH S.H t.f).s = 5
def Queue14 (S : Sv14) : Prop := S.Q.length ≤ 32 ∧ (∀ j, j < S.H.length → Queues14 S j (gt14 S.H j) → ¬ Heard14 S (gt14 S.H j)) ∧ srt14 S.Q = want14 S S.H.length
/-- Between two rounds: the row of those so far. -/
structure Qr14 (w : World) (S : Sv14) (A0 A1 A2 A3 A4 : Option Addr) (n0 n1 n2 n3 n4 c0 c1 c2 c3 c4 : Nat) (sq : Int) (A : Option Addr) (m c : Nat) (l : List Int) (W : World) : Prop where
  b : Bx14 w S A0 A1 A2 A3 A4 n0 n1 n2 n3 n4 c0 c1 c2 c3 c4 sq W
  o : W.ownsRow (w.heap.size + 1) 3 1 (.slice A m c) m (fl14 clI l)
  l : l.length = m
theorem Qr14.step {w : World} {S : Sv14} {A0 A1 A2 A3 A4 : Option Addr} {n0 n1 n2 n3 n4 c0 c1 c2 c3 c4 : Nat} {sq : Int} {A : Option Addr} {m c : Nat} {l : List Int} {W W' : World} (h : Qr14 w S A0 A1 A2 A3 A4 n0 n1 n2 n3 n4 c0 c1 c2 c3 c4 sq A m c l W) (hb : Below W.heap.size W W') : Qr14 w S A0 A1 A2 A3 A4 n0 n1 n2 n3 n4 c0 c1 c2 c3 c4 sq A m c l W' :=
  ⟨h.b.step hb, own12_keep2 h.o hb, h.l⟩
theorem Qr14.congr {w : World} {S : Sv14} {A0 A1 A2 A3 A4 : Option Addr} {n0 n1 n2 n3 n4 c0 c1 c2 c3 c4 : Nat} {sq : Int} {A : Option Addr} {m c : Nat} {l l2 : List Int} {W : World} (h : Qr14 w S A0 A1 A2 A3 A4 n0 n1 n2 n3 n4 c0 c1 c2 c3 c4 sq A m c l W) (e : l = l2) : Qr14 w S A0 A1 A2 A3 A4 n0 n1 n2 n3 n4 c0 c1 c2 c3 c4 sq A m c l2 W := e ▸ h
/-- A number is appended. -/
theorem Qr14.push {w : World} {S : Sv14} {A0 A1 A2 A3 A4 : Option Addr} {n0 n1 n2 n3 n4 c0 c1 c2 c3 c4 : Nat} {sq : Int} {A : Option Addr} {m c : Nat} {l : List Int} {W : World} (hs : SA14 w S A0 A1 A2 A3 A4 n0 n1 n2 n3 n4 c0 c1 c2 c3 c4 sq) (h : Qr14 w S A0 A1 A2 A3 A4 n0 n1 n2 n3 n4 c0 c1 c2 c3 c4 sq A m c l W) (x : Int) (hm : m ≤ 2000) :
    ∃ Az cz W2, (Builtin.append_ #[26, 26] 26 #[.slice A m c, .slice (some ⟨W.heap.size, 0, none⟩) 1 1]).run Tryz.prog (W.alloc (.cells #[.int .i64 x] 3)) = .ok (.slice Az (m + 1) cz) W2 ∧ Qr14 w S A0 A1 A2 A3 A4 n0 n1 n2 n3 n4 c0 c1 c2 c3 c4 sq Az (m + 1) cz (l ++ [x]) W2 := by
  have hbz := b1' W (.cells #[.int .i64 x] 3)
  have hkz := Blk.new W 3 #[.int .i64 x]
  have h1 := h.step hbz
  have hsy : (W.alloc (.cells #[.int .i64 x] 3)).heap.size = W.heap.size + 1 := by simp
  obtain ⟨Y, hY⟩ : ∃ Y, W.alloc (.cells #[.int .i64 x] 3) = Y := ⟨_, rfl⟩
  rw [hY] at hbz hkz h1 hsy ⊢
  have hrv : Rv Y Y.heap.size (some ⟨W.heap.size, 0, none⟩) [.int .i64 x] := fun _ => ⟨W.heap.size, 0, rfl, by omega, fun j v hj => by rw [Nat.zero_add, hkz.cell]; simpa using hj⟩
  have hxl := h1.b.x.lt
  obtain ⟨Az, cz, W2, hrun, hown, hg⟩ := run_append_14 (P := Tryz.prog) Y (w.heap.size + 1) 26 26 3 _ 1 8 Tryz.underlying26 info14I rfl (by omega) (by omega) _ m _ h1.o Y.heap.size (some ⟨W.heap.size, 0, none⟩) [.int .i64 x] 1 1 rfl hrv (by simp [Value.oneCell']) (by omega) (by omega)
  have hB : Below w.heap.size w W2 := h1.b.b.grown hg h1.b.b.size (fun r hr => by have := (h1.o.lt r hr).1; omega)
  refine ⟨Az, cz, W2, hrun, ⟨hB, h1.b.x.grown hg (fun e => by have := (h1.o.lt _ e.symm).1; omega), hs.step hB⟩, ?_, by simp [h.l]⟩
  rw [fl14_append]
  exact hown
set_option maxHeartbeats 3000000 in
theorem fineQueue14 (v : Value) (S : Sv14) (b : Bool) (w : World) (h : St14 w v S) (hbt : b = true ↔ Queue14 S) :
    Calls Tryz.prog 46 #[v] w fun e w' => e = .returned (.bool b) ∧ Below w.heap.size w w' := by
  obtain ⟨A0, A1, A2, A3, A4, n0, n1, n2, n3, n4, c0, c1, c2, c3, c4, sq, rfl, hs⟩ := h
  have HX0 : Hid (Qr14 w S A0 A1 A2 A3 A4 n0 n1 n2 n3 n4 c0 c1 c2 c3 c4 sq none 0 0 (want14 S 0) (w.alloc (.cells #[.slice A0 n0 c0, .slice A1 n1 c1, .slice A2 n2 c2, .slice A3 n3 c3, .slice A4 n4 c4, .int .i64 sq] 28))) := Lib.hid ⟨Bx14.new hs, World.ownsRow_nil _ _ _ _, rfl⟩
  have HS := Lib.hid hs
  have HBT := Lib.hid hbt
  have hnb := hs.m2
  have hnq := hs.m4
  have HLQ := Lib.hid hs.l4
  have HLH := Lib.hid hs.l2
  have t4 := HX0.out.b.x.cell 4
  clear hs hbt
  by_cases hq32 : n4 ≤ 32
  case neg =>
    obtain rfl : b = false := bool14_of HBT.out (fun h => by have h1 := h.1; rw [HLQ.out] at h1; exact hq32 h1)
    have h1 : (32 : Int) < (n4 : Int) := by omega
    go_enter Tryz.func46, Tryz.ntmps46
    go_wp2_with fail
    go_ret
    exact ⟨rfl, HX0.out.b.b⟩
  have h32 : ¬ (32 : Int) < (n4 : Int) := by omega
  have t2 := HX0.out.b.x.cell 2
  go_enter Tryz.func46, Tryz.ntmps46
  go_wp2_with fail
  clear t4 t2
  go_loopw [3, 15] (fun v i wr => ∃ (k : Nat) (A : Option Addr) (m c : Nat), v = .slice A m c ∧ i = .int .i64 (k : Int) ∧ k ≤ n2 ∧ Hid (∀ j, j < k → Queues14 S j (gt14 S.H j) → ¬ Heard14 S (gt14 S.H j)) ∧ Hid (Qr14 w S A0 A1 A2 A3 A4 n0 n1 n2 n3 n4 c0 c1 c2 c3 c4 sq A m c (want14 S k) wr)) (fun _ i _ => n2 - (intOf i).toNat)
  case atStart => exact ⟨0, none, 0, 0, rfl, rfl, by omega, Lib.hid (fun j h => by omega), HX0⟩
  case round =>
    obtain ⟨k, A, m, c, rfl, rfl, hk, HN, HW⟩ := hrel
    have hmk : m ≤ k := by rw [← HW.out.l]; exact want14_len S k
    by_cases hkn : k < n2
    · skip
      obtain ⟨a, of, hA, hab, hq⟩ := Lq.at_ len14H (by omega) HW.out.b.s.r2 (show k < S.H.length by rw [HW.out.b.s.l2]; omega)
      have HAE := Lib.hid hA
      obtain ⟨x, hx⟩ : ∃ x, gt14 S.H k = x := ⟨_, rfl⟩
      rw [hx] at hq
      obtain ⟨xz, xf, xc, xq, xu⟩ := x
      have e0 : wr.cell? ⟨a, of + k * 5, none⟩ = some (.int .i64 xz) := hq 0 _ rfl
      have e1 : wr.cell? ⟨a, of + k * 5 + 1, none⟩ = some (.int .i64 xf) := hq 1 _ rfl
      have e2 : wr.cell? ⟨a, of + k * 5 + 2, none⟩ = some (.int .i64 xc) := hq 2 _ rfl
      have e3 : wr.cell? ⟨a, of + k * 5 + 3, none⟩ = some (.int .i64 xq) := hq 3 _ rfl
      have e4 : wr.cell? ⟨a, of + k * 5 + 4, none⟩ = some (.int .i64 xu) := hq 4 _ rfl
      have i0 : (0 : Int) ≤ (k : Int) := by omega
      have i1 : (k : Int) < (n2 : Int) := by omega
      have HV := Lib.hid (Qr14.step HW.out (b1' wr (.cells #[.int .i64 xz, .int .i64 xf, .int .i64 xc, .int .i64 xq, .int .i64 xu] 45)))
      have hv := Blk.new wr 45 #[.int .i64 xz, .int .i64 xf, .int .i64 xc, .int .i64 xq, .int .i64 xu]
      have v0 := hv.cell 0
      have v1 := hv.cell 1
      have v2 := hv.cell 2
      have v3 := hv.cell 3
      have v4 := hv.cell 4
      have HVB := Lib.hid hv
      have HXE := Lib.hid hx
      have p0 := HV.out.b.x.cell 0
      have p1 := HV.out.b.x.cell 1
      have p2 := HV.out.b.x.cell 2
      have p3 := HV.out.b.x.cell 3
      have p4 := HV.out.b.x.cell 4
      have p5 := HV.out.b.x.cell 5
      obtain ⟨X, hX⟩ : ∃ X, wr.alloc (.cells #[.int .i64 xz, .int .i64 xf, .int .i64 xc, .int .i64 xq, .int .i64 xu] 45) = X := ⟨_, rfl⟩
      rw [hX] at HV HVB v0 v1 v2 v3 v4 p0 p1 p2 p3 p4 p5
      clear hv hq hx hab
      subst hA
      obtain ⟨bq, hbq⟩ := ex_bool14 (Queues14 S k ⟨xz, xf, xc, xq, xu⟩)
      have HBQ := Lib.hid hbq
      have HCQ := Lib.hid (queues14 _ S k xz xf xc xq xu bq X HV.out.b.st (by rw [HLH.out]; exact hkn) HXE.out hbq)
      clear hbq
      cases bq with
      | false =>
        have hnq2 : ¬ Queues14 S k ⟨xz, xf, xc, xq, xu⟩ := fun h => by have := HBQ.out.2 h; cases this
        have HN2 : Hid (∀ j, j < k + 1 → Queues14 S j (gt14 S.H j) → ¬ Heard14 S (gt14 S.H j)) := Lib.hid (fun j hj hq => by
          rcases (show j < k ∨ j = k by omega) with h5 | h5
          · exact HN.out j h5 hq
          · rw [h5, HXE.out] at hq
            exact absurd hq hnq2)
        have HE : Hid (want14 S (k + 1) = want14 S k) := Lib.hid (by rw [want14, HXE.out, if_neg hnq2, List.append_nil])
        clear hnq2
        go_wp2_with fail
        refine HCQ.out.mono ?_
        rintro e u ⟨rfl, hbu⟩
        have HU := Lib.hid ((HV.out.step hbu).congr HE.out.symm)
        clear HCQ hbu
        go_wp2_with fail
        go_roundw
        case rel => exact ⟨k + 1, A, m, c, rfl, by go_num, by omega, HN2, HU⟩
        case measure => simp [intOf]; omega
      | true =>
        have HQY := Lib.hid (HBQ.out.1 rfl)
        have HE : Hid (want14 S (k + 1) = want14 S k ++ [(k : Int)]) := Lib.hid (by rw [want14, HXE.out, if_pos HQY.out])
        obtain ⟨y, hy⟩ : ∃ y, at14 usH S.H xf = y := ⟨_, rfl⟩
        obtain ⟨yz, yf, yc, yq, yu⟩ := y
        have HHE : Hid (Heard14 S ⟨xz, xf, xc, xq, xu⟩ ↔ xz = 4 ∧ yz = 5) := Lib.hid (by simp [Heard14, hy])
        have HTH := Lib.hid (fun W (h : Below X.heap.size X W) => thread14 _ S xf yz yf yc yq yu _ W (HV.out.step h).b.st rfl hy)
        clear hy
        go_wp2_with fail
        refine HCQ.out.mono ?_
        rintro e u0 ⟨rfl, hbu0⟩
        have HV0 := Lib.hid (HV.out.step hbu0)
        have HVB0 := Lib.hid (HVB.out.below hbu0 HVB.out.lt)
        have HB0 := Lib.hid hbu0
        have w0_ := HVB0.out.cell 0
        have w1_ := HVB0.out.cell 1
        have w2_ := HVB0.out.cell 2
        have w3_ := HVB0.out.cell 3
        have w4_ := HVB0.out.cell 4
        have z0_ := HV0.out.b.x.cell 0
        have z1_ := HV0.out.b.x.cell 1
        have z2_ := HV0.out.b.x.cell 2
        have z3_ := HV0.out.b.x.cell 3
        have z4_ := HV0.out.b.x.cell 4
        have z5_ := HV0.out.b.x.cell 5
        clear HCQ hbu0
        go_wp2_with fail
        refine (HTH.out _ HB0.out).mono ?_
        rintro e u ⟨rfl, hbu⟩
        have HU := Lib.hid (Qr14.step (HV0.out.step hbu) (b1' u (.cells #[.int .i64 yz, .int .i64 yf, .int .i64 yc, .int .i64 yq, .int .i64 yu] 45)))
        have hky := Blk.new u 45 #[.int .i64 yz, .int .i64 yf, .int .i64 yc, .int .i64 yq, .int .i64 yu]
        have g0 := hky.cell 0
        have hvx := (HVB0.out.below hbu HVB0.out.lt).alloc (.cells #[.int .i64 yz, .int .i64 yf, .int .i64 yc, .int .i64 yq, .int .i64 yu] 45)
        have r0 := hvx.cell 0
        obtain ⟨Z, hZ⟩ : ∃ Z, u.alloc (.cells #[.int .i64 yz, .int .i64 yf, .int .i64 yc, .int .i64 yq, .int .i64 yu] 45) = Z := ⟨_, rfl⟩
        rw [hZ] at HU g0 r0
        clear HTH hbu hky hvx
        have hN2 : ¬ (xz = 4 ∧ yz = 5) → Hid (∀ j, j < k + 1 → Queues14 S j (gt14 S.H j) → ¬ Heard14 S (gt14 S.H j)) := fun hne => Lib.hid (fun j hj hq => by
          rcases (show j < k ∨ j = k by omega) with h5 | h5
          · exact HN.out j h5 hq
          · rw [h5, HXE.out]
            exact fun h => hne (HHE.out.1 h))
        by_cases z4 : xz = 4
        · by_cases y5 : yz = 5
          · have HF : Hid (b = false) := Lib.hid (bool14_of HBT.out (fun h => h.2.1 k (by rw [HLH.out]; exact hkn) (by rw [HXE.out]; exact HQY.out) (by rw [HXE.out]; exact HHE.out.2 ⟨z4, y5⟩)))
            rw [z4] at r0
            rw [y5] at g0
            clear hN2 z4 y5
            go_wp2_with fail
            go_ret
            exact ⟨by rw [HF.out]; rfl, HU.out.b.b⟩
          · have HN2 := hN2 (fun h => y5 h.2)
            rw [z4] at r0
            clear hN2
            obtain ⟨Az, cz, W2, hrun, har⟩ := HU.out.push HS.out (k : Int) (by omega)
            have HRUN := Lib.hid hrun
            have HAR := Lib.hid (har.congr HE.out.symm)
            clear hrun har
            go_wp2_with (at_builtin; go_loud (refine wpList_append_14 _ rfl (.tmp 39) (.tmp 41) 26 rfl _ _ _ _ rfl rfl HRUN.out ?_))
            go_roundw
            case rel => exact ⟨k + 1, Az, m + 1, cz, rfl, by go_num, by omega, HN2, HAR⟩
            case measure => simp [intOf]; omega
        · have HN2 := hN2 (fun h => z4 h.1)
          clear hN2
          obtain ⟨Az, cz, W2, hrun, har⟩ := HU.out.push HS.out (k : Int) (by omega)
          have HRUN := Lib.hid hrun
          have HAR := Lib.hid (har.congr HE.out.symm)
          clear hrun har
          go_wp2_with (at_builtin; go_loud (refine wpList_append_14 _ rfl (.tmp 39) (.tmp 41) 26 rfl _ _ _ _ rfl rfl HRUN.out ?_))
          go_roundw
          case rel => exact ⟨k + 1, Az, m + 1, cz, rfl, by go_num, by omega, HN2, HAR⟩
          case measure => simp [intOf]; omega
    · obtain rfl : k = n2 := by omega
      have h1 : ¬ (k : Int) < (k : Int) := by omega
      have t4 := HW.out.b.x.cell 4
      have HVL := Lib.hid (values14 A4 n4 c4 wr)
      clear hmk hkn
      go_wp2_with fail
      refine HVL.out.mono ?_
      rintro e u ⟨rfl, hu⟩
      have hbu : Below wr.heap.size wr u := by rw [hu]; exact b1' wr _
      have hcu : u.cell? ⟨wr.heap.size, 0, none⟩ = some (.slice A4 n4 c4) := by rw [hu]; exact (Blk.new wr _ _).cell 0
      have HW2 := Lib.hid (HW.out.step hbu)
      have hup : 0 < u.heap.size := Nat.lt_of_le_of_lt (Nat.zero_le _) HW2.out.b.x.lt
      obtain ⟨lb, hlb, hzq⟩ := zq14_of hup HW2.out.b.s.r4
      have HSR := Lib.hid (sorted14 wr.heap.size lb n4 c4 A4 S.Q u HLQ.out hzq hlb (by omega) hcu)
      clear HVL hu hbu hcu hup hlb hzq
      go_wp2_with fail
      refine HSR.out.mono ?_
      rintro e u2 ⟨As, cs, rfl, hqs, hb2⟩
      have HW3 := Lib.hid (HW2.out.step hb2)
      obtain ⟨be, hbe⟩ := ex_bool14 (srt14 S.Q = want14 S k)
      have HEQ := Lib.hid (equal14I As A (srt14 S.Q) (want14 S k) n4 cs m c u2 (by rw [srt14_len, HLQ.out]) hqs (by omega) HW3.out.l (Lq.of_own (by omega) HW3.out.o) (by have := HW3.out.l; have := want14_len S k; omega) be hbe)
      have HBE : Hid (b = be) := Lib.hid (by
        rw [Bool.eq_iff_iff, HBT.out, hbe]
        constructor
        · intro h
          have h2 := h.2.2
          rwa [HLH.out] at h2
        · intro h
          exact ⟨by rw [HLQ.out]; exact hq32, fun j hj => HN.out j (by rw [HLH.out] at hj; exact hj), by rw [HLH.out]; exact h⟩)
      clear HSR hqs hb2 hbe
      go_wp2_with fail
      refine HEQ.out.mono ?_
      rintro e u3 ⟨rfl, hb3⟩
      have HW4 := Lib.hid (HW3.out.step hb3)
      clear HEQ hb3
      go_wp2_with fail
      go_ret
      exact ⟨by rw [HBE.out]; rfl, HW4.out.b.b⟩
end Go.Proofs.YtfoellhoaflofaaGreat
