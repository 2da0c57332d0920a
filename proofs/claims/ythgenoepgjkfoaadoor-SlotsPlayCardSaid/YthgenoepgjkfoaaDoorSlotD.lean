/-
  Slots: those that are taken, gone through.
-/
import Derived.Test.YthgenoepgjkfoaaDoorSlotC
namespace Go.Proofs.YthgenoepgjkfoaaDoor
open Go.RowKit
attribute [local go_sem] Oper.semAt_some
set_option maxRecDepth 100000

theorem round_wide11 {n m : Nat} {P : Program} {l : Nat} {f : FuncId} {tmps : Array Value} {assign body : Code} {w : World} {R : Ending → World → Prop} (h : RoundIn Fence.wide n P l f tmps assign body w R) : RoundIn Fence.wide m P l f tmps assign body w R :=
  ⟨h.1, fun c cs _ => h.2 c cs (room_wide _)⟩

/-- The load of many cells, in a round. -/
theorem wpListIn_load_mid11 {F : Fence} {nF : Nat} {P : Program} {w : World} {ops : Array Oper} {rest : List Oper} {op : Oper} {a : Act} {Q : Exit → Act → World → Prop} (hgd : op.guard = none) (ty : TypeId) (x : Operand) (ho : op.op = .load ty x)
    (b o : Nat) (hx : a.eval x = .pointer (some ⟨b, o, none⟩)) (cs : List Value) (d : TypeDesc) (hc : w.rangeAt b o cs)
    (hu : P.underlying ty = some d) (hd : d.isRow = true) (hi : (P.info? ty).map (·.size) = some cs.length)
    (h : wpListIn F nF P ops Q rest (a.put op.dst (.agg cs.toArray)) w) : wpListIn F nF P ops Q (op :: rest) a w := by
  refine wpListIn_plain hgd fun K hK => ?_
  have hrun := run_loadAt_mid w b o ty cs d hc hu hd hi
  unfold Oper.wpIn
  refine ⟨?_, ?_⟩
  · simp [Oper.about, ho]
  · rw [Oper.semAt_plain F _ _ (by rw [ho]; intro c hc'; cases hc')]
    simp only [execOp, ho, hx, Sem.run_bind, hrun, Result.andThen_ok]
    exact hK _ _ h

/-- The library's table stays. -/
def keep11 (_ : Nat) (p : Addr) : Prop := p.block = 0
/-- What the k-th round is handed. -/
def ienc (L : List Nat) (k : Nat) : Array Value := #[.int .i64 ((nth L k : Nat) : Int)]
theorem rows11_len (S : Nat → Nat) {n : Nat} {T : Nat → Bool} (h : Good11 S n T) : rows11 S 0 = all11 T n := h.all
theorem low_and11 {x : Nat} (h : x ≠ 0) : x &&& (x - 1) < x := Nat.lt_of_le_of_lt Nat.and_le_right (by omega)

set_option maxHeartbeats 4000000 in
theorem rising11 {S : Nat → Nat} {g : Nat} {w0 : World} {vs : List Value} (hv : Rows11 S g w0 vs) (hf : ∀ r, S r < 2 ^ 64) (l : Nat) (J Jx : Nat → World → Prop) (W : World) (L : List Nat) (hL : rows11 S 0 = L) (hT : Tab11 W) (hT0 : 0 < W.heap.size) (hJ : AbidesFrom W.heap.size J)
    (hY : ∀ k W1, k < L.length → J k W1 → YieldAt Fence.wide 2 Tryd.prog l (ienc L k) W1 fun e W' => (e = .returned (.bool true) ∧ J (k + 1) W' ∧ Same (keep11 k) W1 W') ∨ (e = .returned (.bool false) ∧ Jx k W')) (h0 : J 0 W) :
    CallsIn Fence.wide 3 Tryd.prog 22 #[.agg vs.toArray, .func (.yield l) #[] #[]] W fun e W' => (∃ v, e = .returned v) ∧ (J L.length W' ∨ ∃ k, k < L.length ∧ Jx k W') := by
  have HR : Hid ((W.alloc (.cells vs.toArray 43)).rangeAt W.heap.size 0 vs) := Lib.hid (by
    intro j v hj
    rw [Nat.zero_add, (Blk.new W 43 vs.toArray).cell j]
    simpa using hj)
  have HJ0 : Hid (J 0 (W.alloc (.cells vs.toArray 43))) := Lib.hid (by
    have hb := b1' W (.cells vs.toArray 43)
    exact hJ 0 W _ none h0 ⟨hb.os, hb.tape, hb.output, hb.size, fun k hk _ => hb.block k hk⟩ (fun r e => by cases e))
  have HT : Hid (Tab11 (W.alloc (.cells vs.toArray 43))) := Lib.hid (hT.below (b1' W _) hT0)
  have HV := Lib.hid hv
  have HFI := Lib.hid hf
  have HDL : Hid (L.drop 0 = rows11 S 0) := Lib.hid (by rw [List.drop_zero, hL])
  have hvl : ¬ vs.length < 64 := by rw [hv.len]; omega
  clear hv hf hL hT hJ h0
  refine callsIn_of_wp Tryd.func22 rfl trivial ?_ rfl
  simp only [Tryd.ntmps22, List.size_toArray, List.length_cons, List.length_nil, Nat.reduceAdd, Nat.reduceSub, Array.replicate_succ, Array.replicate_zero, List.push_toArray, List.append_toArray, List.nil_append, List.cons_append]
  gi_wp2_with (refine wpListIn_load_mid11 rfl 43 (.tmp 2) rfl W.heap.size 0 rfl vs _ HR.out Tryd.underlying43 rfl HV.out.size ?_)
  gi_loopw [7] (fun kv wr => ∃ r k : Nat, kv = .int .i64 (r : Int) ∧ r ≤ 64 ∧ k ≤ L.length ∧ J k wr ∧ Hid (Tab11 wr) ∧ Hid (L.drop k = rows11 S r)) (fun kv _ => 64 - (intOf kv).toNat)
  case atStart => exact ⟨0, 0, rfl, by omega, Nat.zero_le _, HJ0.out, HT, HDL⟩
  case round =>
    obtain ⟨r, k, rfl, hr, hkL, hJk, HTk, HDk⟩ := hrel
    by_cases hr4 : r < 64
    · obtain ⟨x, hx⟩ : ∃ x, S r = x := ⟨_, rfl⟩
      have hidx := HV.out.index r hr4
      rw [hx] at hidx
      have i0 : (0 : Int) ≤ (r : Int) := by omega
      have i1 : (r : Int) < 64 := by omega
      have HXF : Hid (x < 18446744073709551616) := Lib.hid (by rw [← hx]; exact HFI.out r)
      have HD1 : Hid (L.drop k = (low11 x).map (fun j => r * 64 + j) ++ rows11 S (r + 1)) := Lib.hid (by rw [HDk.out, rows11_step S hr4, hx])
      have HJk := Lib.hid hJk
      clear hx hJk
      gi_wp2_with fail
      gi_loopw [5] (fun xv wi => ∃ x k : Nat, xv = .int .u64 (x : Int) ∧ Hid (x < 18446744073709551616) ∧ k ≤ L.length ∧ J k wi ∧ Hid (Tab11 wi) ∧ Hid (L.drop k = (low11 x).map (fun j => r * 64 + j) ++ rows11 S (r + 1))) (fun xv _ => (intOf xv).toNat)
      case atStart => exact ⟨x, k, rfl, HXF, hkL, HJk.out, HTk, HD1⟩
      case round =>
        obtain ⟨x2, k2, rfl, HX2, hkL2, hJ2, HT2, HD2⟩ := hrel
        by_cases hx0 : x2 = 0
        · subst hx0
          have HD3 : Hid (L.drop k2 = rows11 S (r + 1)) := Lib.hid (by rw [HD2.out, low11_zero]; rfl)
          have HJ3 := Lib.hid hJ2
          clear hJ2
          gi_wp2_with fail
          go_roundw
          case rel => exact ⟨r + 1, k2, rfl, by omega, hkL2, HJ3.out, HT2, HD3⟩
          case measure => simp [intOf]; omega
        · obtain ⟨c, hc⟩ : ∃ c, Lib.ctz 64 x2 = c := ⟨_, rfl⟩
          have hc4 := (ctz11 hx0 HX2.out).1
          have hd := HD2.out
          rw [low11_step hx0 HX2.out, hc] at hd
          obtain ⟨y, hy⟩ : ∃ y, x2 &&& (x2 - 1) = y := ⟨_, rfl⟩
          have hyx : y < x2 := by rw [← hy]; exact low_and11 hx0
          rw [hy] at hd
          rw [hc] at hc4
          obtain ⟨hk, hg, hd2⟩ := nth_all hd
          have hTZ := tz11 x2 HX2.out wr HT2.out
          rw [hc] at hTZ
          obtain ⟨fn, tmps, assign, body, hyl, hR⟩ := hY k2 wr hk hJ2
          obtain ⟨p, hp⟩ : ∃ p, r * 64 + c = p := ⟨_, rfl⟩
          have hg2 : nth L k2 = r * 64 + c := hg
          rw [hp] at hg2
          simp only [ienc, hg2] at hyl
          have hw1 : IntKind.i64.wrap ((r : Int) * 64 + (c : Int)) = (p : Int) := by rw [IntKind.wrap_i64]; omega
          have hw2 : IntKind.u64.wrap ((x2 : Int) - 1) = ((x2 - 1 : Nat) : Int) := by have := HX2.out; rw [IntKind.wrap_u64]; omega
          have hw3 : bits BinOp.and IntKind.u64 (x2 : Int) ((x2 - 1 : Nat) : Int) = (y : Int) := by
            rw [bits_and_u64_nat x2 (x2 - 1) HX2.out (by have := HX2.out; omega), hy]
          have hne2 : ¬ (x2 : Int) = 0 := by omega
          obtain ⟨z, hz⟩ : ∃ z, x2 - 1 = z := ⟨_, rfl⟩
          rw [hz] at hw2 hw3
          have HD3 : Hid (L.drop (k2 + 1) = (low11 y).map (fun j => r * 64 + j) ++ rows11 S (r + 1)) := Lib.hid hd2
          have HTZ := Lib.hid hTZ
          have HRD := Lib.hid hR
          have HK := Lib.hid hk
          have HY3 : Hid (y < 18446744073709551616) := Lib.hid (by have := HX2.out; omega)
          clear hd hc hc4 hg hg2 hd2 hTZ hR hk hy hp hz hJ2
          gi_wp2_with fail
          refine ⟨trivial, ?_⟩
          refine (callsIn_wide.2 HTZ.out).mono ?_
          rintro e w2 ⟨rfl, rfl⟩
          gi_wp2_with fail
          refine (round_wide11 HRD.out).mono ?_
          rintro e W3 (⟨rfl, hJ3, hk3⟩ | ⟨rfl, hJx3⟩)
          · have HT3 : Hid (Tab11 W3) := Lib.hid (HT2.out.same hk3)
            have HJ3 := Lib.hid hJ3
            clear hJ3 hk3
            gi_wp2_with fail
            go_roundw
            case rel => exact ⟨y, k2 + 1, rfl, HY3, HK.out, HJ3.out, HT3, HD3⟩
            case measure => simp [intOf]; omega
          · have HJX := Lib.hid hJx3
            clear hJx3
            gi_wp2_with fail
            refine bodyPost_ret (results_none rfl _ _ _) rfl ?_
            exact ⟨⟨_, rfl⟩, .inr ⟨_, HK.out, HJX.out⟩⟩
    · obtain rfl : r = 64 := by omega
      have hd := HDk.out
      rw [rows11_end] at hd
      have hle : L.length ≤ k := List.drop_eq_nil_iff.1 hd
      obtain rfl : k = L.length := by omega
      have HE := Lib.hid hJk
      clear hd hJk
      gi_wp2_with fail
      go_end0
      exact ⟨⟨_, rfl⟩, .inl HE.out⟩

theorem goes11_nil {sb : Nat} (w : World) (h1 : w.cell? ⟨sb, 0, none⟩ = some (.pointer none)) :
    Goes Fence.wide 4 Tryd.prog 21 #[.pointer (some ⟨sb, 0, none⟩)] (ienc []) keep11 0 w := fun l J Jx W hW _ _ hY h0 => by
  have b1 := World.block_lt_of_cell? w _ h1
  have c1 := (hW.cell b1).trans h1
  have HJ := Lib.hid h0
  clear h0 hY h1 b1
  refine callsIn_of_wp Tryd.func21 rfl trivial ?_ rfl
  simp only [Tryd.ntmps21, List.size_toArray, List.length_cons, List.length_nil, Nat.reduceAdd, Nat.reduceSub, Array.replicate_succ, Array.replicate_zero, List.push_toArray, List.append_toArray, List.nil_append, List.cons_append]
  gi_wp2_with fail
  go_end0
  exact ⟨⟨_, rfl⟩, .inl HJ.out⟩
set_option maxHeartbeats 2000000 in
theorem goes11 {sb g n : Nat} {T : Nat → Bool} (w : World) (h1 : w.cell? ⟨sb, 0, none⟩ = some (.pointer (some ⟨g, 0, none⟩))) (h2 : Sl w g n T) (hT : Tab11 w) (hT0 : 0 < w.heap.size) :
    Goes Fence.wide 4 Tryd.prog 21 #[.pointer (some ⟨sb, 0, none⟩)] (ienc (all11 T n)) keep11 (all11 T n).length w := fun l J Jx W hW hJ _ hY h0 => by
  have b1 := World.block_lt_of_cell? w _ h1
  have c1 := (hW.cell b1).trans h1
  obtain ⟨S, h3, h4⟩ := h2.below hW
  obtain ⟨vs, hvs⟩ := Rows11.of h3
  have HV := Lib.hid hvs
  have HRI : Hid (CallsIn Fence.wide 3 Tryd.prog 22 #[.agg vs.toArray, .func (.yield l) #[] #[]] W fun e W' => (∃ v, e = .returned v) ∧ (J (all11 T n).length W' ∨ ∃ k, k < (all11 T n).length ∧ Jx k W')) :=
    Lib.hid (rising11 hvs h4.fits l J Jx W (all11 T n) h4.all (hT.below hW hT0) (Nat.lt_of_lt_of_le hT0 hW.size) hJ (fun k W1 hk hj => by
      obtain ⟨fn, tmps, assign, body, h5, h6⟩ := hY k W1 hk hj
      exact ⟨fn, tmps, assign, body, h5, round_wide11 h6⟩) h0)
  clear h0 hY h1 b1 h2 h3 h4 hvs hT hT0
  refine callsIn_of_wp Tryd.func21 rfl trivial ?_ rfl
  simp only [Tryd.ntmps21, List.size_toArray, List.length_cons, List.length_nil, Nat.reduceAdd, Nat.reduceSub, Array.replicate_succ, Array.replicate_zero, List.push_toArray, List.append_toArray, List.nil_append, List.cons_append]
  gi_wp2_with (refine wpListIn_load_mid11 rfl 43 (.tmp 7) rfl g 0 rfl vs _ HV.out.load Tryd.underlying43 rfl HV.out.size ?_)
  refine ⟨trivial, ?_⟩
  refine HRI.out.mono ?_
  rintro e w2 ⟨⟨v, rfl⟩, hq⟩
  have HQ := Lib.hid hq
  clear hq
  gi_wp2_with fail
  go_end0
  exact ⟨⟨_, rfl⟩, HQ.out⟩

/-- All: a closure over the receiver's own cell. -/
theorem allF11 (v : Value) (hv : v = .pointer none ∨ ∃ g, v = .pointer (some ⟨g, 0, none⟩)) (w : World) :
    Calls Tryd.prog 19 #[v] w fun e w' => e = .returned (.func (.func 21) #[] #[.pointer (some ⟨w.heap.size, 0, none⟩)]) ∧ w' = w.alloc (.cells #[v] 24) := by
  rcases hv with rfl | ⟨g, rfl⟩
  · go_enter Tryd.func19, Tryd.ntmps19
    go_wp2
    go_ret
    exact ⟨rfl, rfl⟩
  · go_enter Tryd.func19, Tryd.ntmps19
    go_wp2
    go_ret
    exact ⟨rfl, rfl⟩
end Go.Proofs.YthgenoepgjkfoaaDoor
