/-
  Arrows: DagOrders, the walk.
-/
import Derived.Test.YtojdgcalpdbifaaLawDagT
namespace Go.Proofs.Ytojdgcalpdbifaa
open Go.RowKit
set_option maxRecDepth 100000

theorem form13 {w : World} {base s n : Nat} {e : TypeId} {v : Value} {xs : List Value} (h : w.ownsRow base e s v n xs) : ∃ A c, v = .slice A n c := by
  rcases h.2 with ⟨rfl, rfl⟩ | ⟨g, cap, cur, rfl, _⟩
  · exact ⟨none, 0, rfl⟩
  · exact ⟨_, cap, rfl⟩
theorem aq13_blk {W : World} {g : Nat} {x y : Int} (h : Blk W g 39 #[.int .i64 x, .int .i64 y]) : Aq W W.heap.size (some ⟨g, 0, none⟩) [(x, y)] := by
  intro _
  refine ⟨g, 0, rfl, h.lt, fun k v hv => ?_⟩
  rw [Nat.zero_add, h.cell]
  simpa [acs] using hv
theorem step_appd13 {ops : Array Oper} {o : Oper} {a : Act} {K : Act → World → Prop} {Q : Exit → Act → World → Prop} {E : Prop} (W w' : World) (hw : Region.wanted o (yielded ops a.tmps) = true) (s x : Operand)
    (ho : o.op = .call { callee := .builtin .append, args := #[s, x], argTypes := #[22, 22] }) (hty : o.type = 22) (v y r : Value) (hs : a.eval s = v) (hx : a.eval x = y)
    (hrun : (Builtin.append_ #[22, 22] 22 #[v, y]).run Try.prog W = .ok r w') (h : K (a.put o.dst r) w') :
    if Region.wanted o (yielded ops a.tmps) = true then Oper.wp Try.prog o a W K Q else E := by
  rw [if_pos hw]
  unfold Oper.wp execOp
  simp only [ho, hty, resolve, invoke, builtin, Sem.run_bind, Sem.run_pure, Result.andThen_ok, List.map_toArray, List.map_cons, List.map_nil, hs, hx, hrun]
  exact h
theorem fresh13 {os : List Nat} (h : os.Nodup) {i : Nat} (hi : i < os.length) : nth os i ∉ os.take i := by
  have h1 : (os.take i ++ os.drop i).Nodup := by rw [List.take_append_drop]; exact h
  rw [drop_nth13 hi, List.nodup_append] at h1
  exact fun hm => h1.2.2 _ hm _ (by simp) rfl
/-- Where each one stands. -/
structure At13 (os : List Nat) (i : Nat) (p : Nat → Nat) : Prop where
  at_ : ∀ q, q < i → p (nth os q) = q + 1
  none_ : ∀ j, j ∉ os.take i → p j = 0
theorem At13.next {os : List Nat} {i : Nat} {p : Nat → Nat} (h : At13 os i p) (hn : os.Nodup) (hi : i < os.length) : At13 os (i + 1) (upd p (nth os i) (i + 1)) := by
  have hf := fresh13 hn hi
  refine ⟨fun q hq => ?_, fun j hj => ?_⟩
  · rcases (show q < i ∨ q = i by omega) with h1 | rfl
    · have h2 : nth os q ≠ nth os i := by
        intro e
        refine hf ?_
        rw [← e, nth_in (show q < os.length by omega)]
        rw [show os[q] = (os.take i)[q]'(by rw [List.length_take]; omega) by simp]
        exact List.getElem_mem _
      rw [upd_far _ _ h2]
      exact h.at_ q h1
    · rw [upd_at]
  · rw [List.take_add_one, List.getElem?_eq_getElem hi, ← nth_in hi, List.mem_append] at hj
    have h1 : j ≠ nth os i := fun e => hj (.inr (by simp [e]))
    rw [upd_far _ _ h1]
    exact h.none_ j (fun e => hj (.inl e))
/-- An arrow leads from one that stands ahead. -/
theorem At13.ahead {A : List (Nat × Nat)} {n : Nat} {os : List Nat} {p : Nat → Nat} (h : At13 os os.length p) (ho : Told13 A n os) (hl : os.length = n) (hA : In13 A n) {f t : Nat} (hft : (f, t) ∈ A) : p f < p t ∧ p t ≤ n := by
  have ht := full13 n os ho.nodup ho.lt hl t (hA _ hft).2
  obtain ⟨q, hq, he⟩ := List.getElem_of_mem ht
  have hqt : nth os q = t := by rw [nth_in hq]; exact he
  have h1 := ho.take (q + 1)
  rw [List.take_add_one, List.getElem?_eq_getElem hq, he] at h1
  obtain ⟨_, h2, _⟩ := h1.snoc
  have hf := h2.2.2 f hft
  obtain ⟨r, hr, hre⟩ := List.getElem_of_mem hf
  rw [List.length_take] at hr
  have hrf : nth os r = f := by
    rw [nth_in (show r < os.length by omega)]
    rw [← hre, List.getElem_take]
  have h3 := h.at_ q hq
  have h4 := h.at_ r (by omega)
  rw [hqt] at h3
  rw [hrf] at h4
  omega
theorem back13 {N : Nat} {l : List (Int × Int)} {f t : Nat} (h : (f, t) ∈ cut13 N l) : Rng13 (cut13 N (l ++ [((t : Int), (f : Int))])) := by
  obtain ⟨h1, h2⟩ := cut13_lt h
  have hm : (f, t) ∈ cut13 N (l ++ [((t : Int), (f : Int))]) := by
    rw [cut13_append]
    exact List.mem_append.2 (.inl h)
  have hb : (t, f) ∈ cut13 N (l ++ [((t : Int), (f : Int))]) := by
    rw [cut13_append]
    exact List.mem_append.2 (.inr (cut13_mem.2 ⟨by simp, h2, h1⟩))
  exact ⟨f, (Way.one hm).step hb⟩

set_option maxHeartbeats 2000000 in
theorem dagOrders_alive (n : Int) (Ad : Option Addr) (m c : Nat) (w : World) (h : 200 < m ∨ 300 < n) :
    Calls Try.prog 4 #[.int .i64 n, .slice Ad m c] w fun e w' => e = .returned (.bool true) ∧ Below w.heap.size w w' := by
  have HV := Lib.hid (alive13_any w)
  by_cases h1 : 200 < m
  · have h3 : (200 : Int) < (m : Int) := by omega
    clear h
    go_enter Try.func4, Try.ntmps4
    go_wp2_with fail
    refine HV.out.mono ?_
    rintro e w1 ⟨rfl, hb⟩
    go_wp2_with fail
    go_ret
    exact ⟨rfl, hb⟩
  · have h2 : 300 < n := by omega
    have h3 : ¬ (200 : Int) < (m : Int) := by omega
    clear h
    go_enter Try.func4, Try.ntmps4
    go_wp2_with fail
    refine HV.out.mono ?_
    rintro e w1 ⟨rfl, hb⟩
    go_wp2_with fail
    go_ret
    exact ⟨rfl, hb⟩

set_option maxHeartbeats 8000000 in
theorem dagOrders_walk (n : Int) (Ad : Option Addr) (l : List (Int × Int)) (m c : Nat) (w : World) (hl : l.length = m) (hr : Aq w w.heap.size Ad l) (hn : n ≤ 300) (hm : m ≤ 200) :
    Calls Try.prog 4 #[.int .i64 n, .slice Ad m c] w fun e w' => e = .returned (.bool true) ∧ Below w.heap.size w w' := by
  obtain ⟨N, hNN⟩ : ∃ N, nn13 n = N := ⟨_, rfl⟩
  have hmx : max n 0 = (N : Int) := by rw [← hNN]; unfold nn13; omega
  have hN : N ≤ 300 := by omega
  obtain ⟨os, hd⟩ := done13_ex (cut13 N l) N
  have HD := Lib.hid hd
  have HNN := Lib.hid hNN
  have HL := Lib.hid hl
  have HA := Lib.hid hr
  have HIC : Hid (In13 (cut13 N l) N) := Lib.hid (fun p hp => cut13_lt hp)
  have HV := Lib.hid (fun W => alive13_any W)
  have HC1 := Lib.hid (dorder13_any n N hNN Ad l m c os w hl hr (by omega) hd)
  have m1 : ¬ (200 : Int) < (m : Int) := by omega
  have n1 : ¬ (300 : Int) < n := by omega
  clear hd hl hr hNN
  go_enter Try.func4, Try.ntmps4
  go_wp2_with fail
  refine HC1.out.mono ?_
  rintro e w3 ⟨vo, rfl, ho1, ho2, hb⟩
  have HB0 := Lib.hid hb
  have HA3 : Hid (Aq w3 w3.heap.size Ad l) := Lib.hid (Rv.step HA.out hb)
  by_cases hf : os.length = N
  · obtain ⟨Ao, co, rfl, hown⟩ := ho1 hf
    rw [decide_eq_true hf]
    have HO := Lib.hid (Rd.of_own hown)
    rw [hf]
    have HF := Lib.hid hf
    have hmk := make_ints13 N (by omega)
    have HI0 : Hid (Ib13 (w3.alloc (.cells (madeCells #[.int .i64 0] N) 3)) w3.heap.size N (fun _ => 0)) := Lib.hid (by
      obtain ⟨cs, k1, k2, k3⟩ := made13 w3 3 N (.int .i64 0)
      exact ⟨cs, k1, by omega, k3⟩)
    have HB4 := Lib.hid (b1' w3 (.cells (madeCells #[.int .i64 0] N) 3))
    have HP0 : Hid (At13 os 0 (fun _ => 0)) := Lib.hid ⟨fun q hq => by omega, fun _ _ => rfl⟩
    clear ho1 ho2 hb hown hf HC1
    go_wp2_with fail
    go_loopw [8] (fun iv wr => ∃ (i : Nat) (p : Nat → Nat), iv = .int .i64 (i : Int) ∧ i ≤ N ∧ Hid (Ib13 wr w3.heap.size N p) ∧ Hid (At13 os i p) ∧ Hid (Below w3.heap.size w3 wr)) (fun iv _ => N - (intOf iv).toNat)
    case atStart => exact ⟨0, _, rfl, by omega, HI0, HP0, HB4⟩
    case round =>
      clear HI0 HP0 HB4 hmk
      obtain ⟨i, p, rfl, hi, HI, HP, HB⟩ := hrel
      by_cases hiN : i < N
      · have hil : i < os.length := by have := HF.out; omega
        obtain ⟨a, o, hA, _, ca⟩ := (HO.out.below HB.out (Nat.le_refl _)).at_ hil
        subst hA
        have hyN : nth os i < N := by rw [nth_in hil]; exact HD.out.1.lt _ (List.getElem_mem hil)
        have hy0 := HP.out.none_ _ (fresh13 HD.out.1.nodup hil)
        have HP1 := Lib.hid (HP.out.next HD.out.1.nodup hil)
        obtain ⟨y, hy⟩ : ∃ y, nth os i = y := ⟨_, rfl⟩
        rw [hy] at ca hyN hy0 HP1
        obtain ⟨cy, fy⟩ := HI.out.cells hyN
        rw [hy0] at cy
        have HI1 := Lib.hid (HI.out.put hyN (i + 1))
        have HB1 := Lib.hid (HB.out.setCell (p := ⟨w3.heap.size, y, none⟩) (Nat.le_refl _) (.int .i64 ((i + 1 : Nat) : Int)))
        obtain ⟨i', hi'⟩ : ∃ i', i + 1 = i' := ⟨_, rfl⟩
        rw [hi'] at HI1 HB1 HP1
        have hwi : IntKind.i64.wrap ((i : Int) + 1) = (i' : Int) := by rw [← hi', IntKind.wrap_i64]; omega
        have i0 : (0 : Int) ≤ (i : Int) := by omega
        have i1 : (i : Int) < (N : Int) := by omega
        have y0 : (0 : Int) ≤ (y : Int) := by omega
        have y1 : (y : Int) < (N : Int) := by omega
        have y2 : ¬ (y : Int) < 0 := by omega
        have y3 : ¬ (N : Int) ≤ (y : Int) := by omega
        have HI' := Lib.hid hi'
        clear hy hy0 hi'
        go_wp2_with fail
        go_roundw
        case rel => exact ⟨i', _, by first | rfl | (congr 1; have := HI'.out; omega), by have := HI'.out; omega, HI1, HP1, HB1⟩
        case measure => have := HI'.out; simp [intOf]; omega
      · obtain rfl : i = N := by omega
        have HPE : Hid (At13 os os.length p) := Lib.hid (by rw [HF.out]; exact HP.out)
        have i1 : ¬ (i : Int) < (i : Int) := by omega
        clear HP
        go_wp2_with fail
        go_loopw [9] (fun iv wr => ∃ k : Nat, iv = .int .i64 (k : Int) ∧ k ≤ m ∧ Hid (Ib13 wr w3.heap.size i p) ∧ Hid (Below w3.heap.size w3 wr)) (fun iv _ => m - (intOf iv).toNat)
        case atStart => exact ⟨0, rfl, by omega, HI, HB⟩
        case round =>
          clear HI HB
          obtain ⟨k, rfl, hk, HI, HB⟩ := hrel
          by_cases hkm : k < m
          · have hkl : k < l.length := by have := HL.out; omega
            obtain ⟨ba, o, hA, _, c0, c1⟩ := Aq.at_ (Rv.below HA3.out HB.out (Nat.le_refl _)) hkl
            subst hA
            obtain ⟨fi, hfi⟩ : ∃ x, (arr l k).1 = x := ⟨_, rfl⟩
            obtain ⟨ti, hti⟩ : ∃ x, (arr l k).2 = x := ⟨_, rfl⟩
            rw [hfi] at c0
            rw [hti] at c1
            have HAR : Hid (arr l k = (fi, ti)) := Lib.hid (by rw [← hfi, ← hti])
            have hb1 := b1' wr (.cells #[.int .i64 fi, .int .i64 ti] 39)
            have hbk := Blk.new wr 39 #[.int .i64 fi, .int .i64 ti]
            have x0 := hbk.cell 0
            have x1 := hbk.cell 1
            have HI1 := Lib.hid (HI.out.below hb1 HI.out.lt)
            have HB1 := Lib.hid (HB.out.trans (hb1.mono HB.out.size))
            have k0 : (0 : Int) ≤ (k : Int) := by omega
            have k1 : (k : Int) < (m : Int) := by omega
            clear hfi hti hb1 hbk
            by_cases hin : 0 ≤ fi ∧ fi < (i : Int) ∧ 0 ≤ ti ∧ ti < (i : Int)
            · obtain ⟨f, rfl⟩ : ∃ f : Nat, fi = (f : Int) := ⟨fi.toNat, by omega⟩
              obtain ⟨t, rfl⟩ : ∃ t : Nat, ti = (t : Int) := ⟨ti.toNat, by omega⟩
              have hfN : f < i := by omega
              have htN : t < i := by omega
              have hmem := arr_in hkl HAR.out hfN htN
              obtain ⟨hlt, hpi⟩ := HPE.out.ahead HD.out.1 HF.out HIC.out hmem
              obtain ⟨zs, hzs⟩ := done13_ex (cut13 i (l ++ [((t : Int), (f : Int))])) i
              have HZN : Hid (¬ zs.length = i) := Lib.hid (by
                have h1 := (hzs.ring (fun p hp => cut13_lt hp)).1 (back13 hmem)
                omega)
              have HZ := Lib.hid hzs
              obtain ⟨wn, hwn⟩ : ∃ W, (wr.alloc (.cells #[.int .i64 (f : Int), .int .i64 (t : Int)] 39)).drew = W := ⟨_, rfl⟩
              have HIN : Hid (Ib13 wn w3.heap.size i p) := Lib.hid (by rw [← hwn]; exact HI1.out.below (Below.refl _ _).drew HI1.out.lt)
              have HBR : Hid (Below w3.heap.size w3 wn) := Lib.hid (by rw [← hwn]; exact HB1.out.drew)
              have HAN : Hid (Aq wn wn.heap.size (some ⟨ba, o, none⟩) l) := Lib.hid (Rv.step HA3.out HBR.out)
              have HY0 : Hid (wn.cell? ⟨wr.heap.size, 0, none⟩ = some (.int .i64 (f : Int))) := Lib.hid (by rw [← hwn]; exact (Blk.new wr 39 _).cell 0)
              have HY1 : Hid (wn.cell? ⟨wr.heap.size, 1, none⟩ = some (.int .i64 (t : Int))) := Lib.hid (by rw [← hwn]; exact (Blk.new wr 39 _).cell 1)
              obtain ⟨pf, hpf⟩ : ∃ x, p f = x := ⟨_, rfl⟩
              obtain ⟨pt, hpt⟩ : ∃ x, p t = x := ⟨_, rfl⟩
              have haf := (HIN.out.cells hfN).1
              have hat := (HIN.out.cells htN).1
              rw [hpf] at haf hlt
              rw [hpt] at hat hlt
              have HAF := Lib.hid haf
              have HAT := Lib.hid hat
              have hge : decide ((pt : Int) ≤ (pf : Int)) = false := decide_eq_false (by omega)
              have hge2 : decide (pt ≤ pf) = false := decide_eq_false (by omega)
              have hge3 : ¬ pt ≤ pf := by omega
              have f0 : (0 : Int) ≤ (f : Int) := by omega
              have f1 : (f : Int) < (i : Int) := by omega
              have f2 : ¬ (f : Int) < 0 := by omega
              have f3 : ¬ (i : Int) ≤ (f : Int) := by omega
              have t0 : (0 : Int) ≤ (t : Int) := by omega
              have t1 : (t : Int) < (i : Int) := by omega
              have t2 : ¬ (t : Int) < 0 := by omega
              have t3 : ¬ (i : Int) ≤ (t : Int) := by omega
              clear hmem hlt hpi hzs haf hat hpf hpt hin
              go_wp2_with fail
              refine wp_region_held_drew (S := fun W => Below wn.heap.size wn W) (by kernel_rfl) (by rw [hwn]; exact Below.refl _ _) (fun hHeld => ?_)
              rw [hwn] at hHeld ⊢
              clear hwn
              have HBS := Lib.hid (Below.refl wn.heap.size wn)
              refine wpAnyH_take (i := 0) (v := ?_) (op_of rfl) (by kernel_rfl) (by kernel_rfl) (by kernel_rfl) (fun _ _ _ h => h) (Or.inl ⟨by rfl, fun W hS => ?_⟩) (by assumption) ?_
              rotate_left
              · try dsimp only at hS
                go_simp
                try with_reducible rfl
              try dsimp only [Act.put]
              try simp only [List.setIfInBounds_toArray, List.set_cons_zero, List.set_cons_succ]
              refine wpAnyH_take (i := 1) (v := ?_) (op_of rfl) (by kernel_rfl) (by kernel_rfl) (by kernel_rfl) (fun _ _ _ h => h) (Or.inl ⟨by rfl, fun W hS => ?_⟩) (by assumption) ?_
              rotate_left
              · try dsimp only at hS
                go_simp
                try with_reducible rfl
              try dsimp only [Act.put]
              try simp only [List.setIfInBounds_toArray, List.set_cons_zero, List.set_cons_succ]
              refine wpAnyH_take (i := 2) (v := ?_) (op_of rfl) (by kernel_rfl) (by kernel_rfl) (by kernel_rfl) (fun _ _ _ h => h) (Or.inl ⟨by rfl, fun W hS => ?_⟩) (by assumption) ?_
              rotate_left
              · try dsimp only at hS
                have z0 := (hS.cell (World.block_lt_of_cell? _ _ HY0.out)).trans HY0.out
                go_simp
                try with_reducible rfl
              try dsimp only [Act.put]
              try simp only [List.setIfInBounds_toArray, List.set_cons_zero, List.set_cons_succ]
              refine wpAnyH_take (i := 3) (v := ?_) (op_of rfl) (by kernel_rfl) (by kernel_rfl) (by kernel_rfl) (fun _ _ _ h => h) (Or.inl ⟨by rfl, fun W hS => ?_⟩) (by assumption) ?_
              rotate_left
              · try dsimp only at hS
                go_simp
                try with_reducible rfl
              try dsimp only [Act.put]
              try simp only [List.setIfInBounds_toArray, List.set_cons_zero, List.set_cons_succ]
              refine wpAnyH_take (i := 4) (v := ?_) (op_of rfl) (by kernel_rfl) (by kernel_rfl) (by kernel_rfl) (fun _ _ _ h => h) (Or.inl ⟨by rfl, fun W hS => ?_⟩) (by assumption) ?_
              rotate_left
              · try dsimp only at hS
                have z0 := (hS.cell (World.block_lt_of_cell? _ _ HAF.out)).trans HAF.out
                go_simp
                try with_reducible rfl
              try dsimp only [Act.put]
              try simp only [List.setIfInBounds_toArray, List.set_cons_zero, List.set_cons_succ]
              refine wpAnyH_take (i := 5) (v := ?_) (op_of rfl) (by kernel_rfl) (by kernel_rfl) (by kernel_rfl) (fun _ _ _ h => h) (Or.inl ⟨by rfl, fun W hS => ?_⟩) (by assumption) ?_
              rotate_left
              · try dsimp only at hS
                go_simp
                try with_reducible rfl
              try dsimp only [Act.put]
              try simp only [List.setIfInBounds_toArray, List.set_cons_zero, List.set_cons_succ]
              refine wpAnyH_take (i := 6) (v := ?_) (op_of rfl) (by kernel_rfl) (by kernel_rfl) (by kernel_rfl) (fun _ _ _ h => h) (Or.inl ⟨by rfl, fun W hS => ?_⟩) (by assumption) ?_
              rotate_left
              · try dsimp only at hS
                go_simp
                try with_reducible rfl
              try dsimp only [Act.put]
              try simp only [List.setIfInBounds_toArray, List.set_cons_zero, List.set_cons_succ]
              refine wpAnyH_take (i := 7) (v := ?_) (op_of rfl) (by kernel_rfl) (by kernel_rfl) (by kernel_rfl) (fun _ _ _ h => h) (Or.inl ⟨by rfl, fun W hS => ?_⟩) (by assumption) ?_
              rotate_left
              · try dsimp only at hS
                have z0 := (hS.cell (World.block_lt_of_cell? _ _ HY1.out)).trans HY1.out
                go_simp
                try with_reducible rfl
              try dsimp only [Act.put]
              try simp only [List.setIfInBounds_toArray, List.set_cons_zero, List.set_cons_succ]
              refine wpAnyH_take (i := 8) (v := ?_) (op_of rfl) (by kernel_rfl) (by kernel_rfl) (by kernel_rfl) (fun _ _ _ h => h) (Or.inl ⟨by rfl, fun W hS => ?_⟩) (by assumption) ?_
              rotate_left
              · try dsimp only at hS
                go_simp
                try with_reducible rfl
              try dsimp only [Act.put]
              try simp only [List.setIfInBounds_toArray, List.set_cons_zero, List.set_cons_succ]
              refine wpAnyH_take (i := 9) (v := ?_) (op_of rfl) (by kernel_rfl) (by kernel_rfl) (by kernel_rfl) (fun _ _ _ h => h) (Or.inl ⟨by rfl, fun W hS => ?_⟩) (by assumption) ?_
              rotate_left
              · try dsimp only at hS
                have z0 := (hS.cell (World.block_lt_of_cell? _ _ HAT.out)).trans HAT.out
                go_simp
                try with_reducible rfl
              try dsimp only [Act.put]
              try simp only [List.setIfInBounds_toArray, List.set_cons_zero, List.set_cons_succ]
              refine wpAnyH_take (i := 10) (v := ?_) (op_of rfl) (by kernel_rfl) (by kernel_rfl) (by kernel_rfl) (fun _ _ _ h => h) (Or.inl ⟨by rfl, fun W hS => ?_⟩) (by assumption) ?_
              rotate_left
              · try dsimp only at hS
                go_simp
                try with_reducible rfl
              try dsimp only [Act.put]
              try simp only [List.setIfInBounds_toArray, List.set_cons_zero, List.set_cons_succ]
              refine wpAnyH_take (i := 11) (v := ?_) (op_of rfl) (by kernel_rfl) (by kernel_rfl) (by kernel_rfl) (fun _ _ _ h => h) (Or.inl ⟨by rfl, fun W hS => ?_⟩) (by assumption) ?_
              rotate_left
              · try dsimp only at hS
                go_simp
                try with_reducible rfl
              try dsimp only [Act.put]
              try simp only [List.setIfInBounds_toArray, List.set_cons_zero, List.set_cons_succ]
              refine wpAnyH_take (i := 12) (v := ?_) (op_of rfl) (by kernel_rfl) (by kernel_rfl) (by kernel_rfl) (fun _ _ _ h => h) (Or.inl ⟨by rfl, fun W hS => ?_⟩) (by assumption) ?_
              rotate_left
              · try dsimp only at hS
                go_simp
                try with_reducible rfl
              try dsimp only [Act.put]
              try simp only [List.setIfInBounds_toArray, List.set_cons_zero, List.set_cons_succ]
              refine wpAnyH_take (i := 14) (v := ?_) (op_of rfl) (by kernel_rfl) (by kernel_rfl) (by kernel_rfl) (fun _ _ _ h => h) (Or.inl ⟨by rfl, fun W hS => ?_⟩) (by assumption) ?_
              rotate_left
              · try dsimp only at hS
                go_simp
                try with_reducible rfl
              try dsimp only [Act.put]
              try simp only [List.setIfInBounds_toArray, List.set_cons_zero, List.set_cons_succ]
              refine wpAnyH_take (i := 16) (v := ?_) (op_of rfl) (by kernel_rfl) (by kernel_rfl) (by kernel_rfl) (fun _ _ _ h => h) (Or.inl ⟨by rfl, fun W hS => ?_⟩) (by assumption) ?_
              rotate_left
              · try dsimp only at hS
                go_simp
                try with_reducible rfl
              try dsimp only [Act.put]
              try simp only [List.setIfInBounds_toArray, List.set_cons_zero, List.set_cons_succ]
              refine wpAnyH_take (i := 17) (v := ?_) (op_of rfl) (by kernel_rfl) (by kernel_rfl) (by kernel_rfl) (fun _ _ _ h => h) (Or.inl ⟨by rfl, fun W hS => ?_⟩) (by assumption) ?_
              rotate_left
              · try dsimp only at hS
                have z0 := (hS.cell (World.block_lt_of_cell? _ _ HY1.out)).trans HY1.out
                go_simp
                try with_reducible rfl
              try dsimp only [Act.put]
              try simp only [List.setIfInBounds_toArray, List.set_cons_zero, List.set_cons_succ]
              refine wpAnyH_take (i := 18) (v := ?_) (op_of rfl) (by kernel_rfl) (by kernel_rfl) (by kernel_rfl) (fun _ _ _ h => h) (Or.inl ⟨by rfl, fun W hS => ?_⟩) (by assumption) ?_
              rotate_left
              · try dsimp only at hS
                go_simp
                try with_reducible rfl
              try dsimp only [Act.put]
              try simp only [List.setIfInBounds_toArray, List.set_cons_zero, List.set_cons_succ]
              refine wpAnyH_take (i := 19) (v := ?_) (op_of rfl) (by kernel_rfl) (by kernel_rfl) (by kernel_rfl) (fun _ _ _ h => h) (Or.inl ⟨by rfl, fun W hS => ?_⟩) (by assumption) ?_
              rotate_left
              · try dsimp only at hS
                have z0 := (hS.cell (World.block_lt_of_cell? _ _ HY0.out)).trans HY0.out
                go_simp
                try with_reducible rfl
              try dsimp only [Act.put]
              try simp only [List.setIfInBounds_toArray, List.set_cons_zero, List.set_cons_succ]
              refine wpAnyH_take (i := 20) (v := ?_) (op_of rfl) (by kernel_rfl) (by kernel_rfl) (by kernel_rfl) (fun _ _ _ h => h) (Or.inl ⟨by rfl, fun W hS => ?_⟩) (by assumption) ?_
              rotate_left
              · try dsimp only at hS
                go_simp
                try with_reducible rfl
              try dsimp only [Act.put]
              try simp only [List.setIfInBounds_toArray, List.set_cons_zero, List.set_cons_succ]
              refine wpAnyH_ready (rs := [13, 21]) (by kernel_rfl) (by simp) (AllReadyH.cons (op_of rfl) (fun K hK => ?_) (AllReadyH.cons (op_of rfl) (fun K hK => ?_) AllReadyH.nil))
              · skip
                have HSZwn : Hid (wn.heap.size ≤ wn.heap.size) := Lib.hid HBS.out.size
                obtain ⟨g13, hg13⟩ : ∃ k, wn.heap.size = k := ⟨_, rfl⟩
                have H13 : Hid ((wn.alloc (.cells #[] 39)).ownsRow wn.heap.size 39 2 (.slice (some ⟨g13, 0, none⟩) 0 0) 0 []) := Lib.hid (by rw [← hg13]; exact World.ownsRow_made wn #[] 0 HSZwn.out (Nat.zero_le _) rfl)
                have HBS := Lib.hid (HBS.out.trans ((b1' wn (.cells #[] 39)).mono HBS.out.size))
                obtain ⟨wa, hwa⟩ : ∃ W, wn.alloc (.cells #[] 39) = W := ⟨_, rfl⟩
                rw [hwa] at HBS H13
                go_simp
                refine hK.out _ _ HBS.out (fun hHeld => ?_)
                clear hK K
                try dsimp only [Act.put]
                try simp only [List.setIfInBounds_toArray, List.set_cons_zero, List.set_cons_succ]
                refine wpAnyH_ready (rs := [15, 21]) (by kernel_rfl) (by simp) (AllReadyH.cons (op_of rfl) (fun K hK => ?_) (AllReadyH.cons (op_of rfl) (fun K hK => ?_) AllReadyH.nil))
                · skip
                  have HSZwa : Hid (wn.heap.size ≤ wa.heap.size) := Lib.hid HBS.out.size
                  obtain ⟨A15, c15, wb, hap, hown, hgr⟩ := appd13 wa wn.heap.size _ 0 [] l m c _ (some ⟨ba, o, none⟩) 22 HL.out H13.out (Rv.step HAN.out HBS.out) (by omega) HSZwa.out
                  rw [Nat.zero_add, List.nil_append] at hown
                  rw [Nat.zero_add] at hap
                  have H15 := Lib.hid hown
                  have HBS := Lib.hid (HBS.out.grown hgr HSZwa.out (fun r hr => (H13.out.lt r hr).1))
                  have HAP := Lib.hid hap
                  clear hap hown hgr
                  have hap := HAP.out
                  refine step_appd13 _ wb (by rfl) _ _ (by rfl) (by rfl) _ _ _ (by rfl) (by rfl) hap ?_
                  clear hap HAP
                  refine hK.out _ _ HBS.out (fun hHeld => ?_)
                  clear hK K
                  try dsimp only [Act.put]
                  try simp only [List.setIfInBounds_toArray, List.set_cons_zero, List.set_cons_succ]
                  refine wpAnyH_ready (rs := [21]) (by kernel_rfl) (by simp) (AllReadyH.cons (op_of rfl) (fun K hK => ?_) AllReadyH.nil)
                  have HSZwb : Hid (wn.heap.size ≤ wb.heap.size) := Lib.hid HBS.out.size
                  obtain ⟨g21, hg21⟩ : ∃ k, wb.heap.size = k := ⟨_, rfl⟩
                  have H21 : Hid (Blk (wb.alloc (.cells #[.int .i64 (t : Int), .int .i64 (f : Int)] 39)) g21 39 #[.int .i64 (t : Int), .int .i64 (f : Int)]) := Lib.hid (by rw [← hg21]; exact Blk.new wb _ _)
                  have H15 := Lib.hid (own12_keep2 H15.out (b1' wb (.cells #[.int .i64 (t : Int), .int .i64 (f : Int)] 39)))
                  have HBS := Lib.hid (HBS.out.trans ((b1' wb (.cells #[.int .i64 (t : Int), .int .i64 (f : Int)] 39)).mono HBS.out.size))
                  obtain ⟨wc, hwc⟩ : ∃ W, wb.alloc (.cells #[.int .i64 (t : Int), .int .i64 (f : Int)] 39) = W := ⟨_, rfl⟩
                  rw [hwc] at HBS H21 H15
                  go_simp
                  refine hK.out _ _ HBS.out (fun hHeld => ?_)
                  clear hK K
                  try dsimp only [Act.put]
                  try simp only [List.setIfInBounds_toArray, List.set_cons_zero, List.set_cons_succ]
                  refine wpAnyH_ready (rs := [22]) (by kernel_rfl) (by simp) (AllReadyH.cons (op_of rfl) (fun K hK => ?_) AllReadyH.nil)
                  have HSZc : Hid (wn.heap.size ≤ wc.heap.size) := Lib.hid HBS.out.size
                  obtain ⟨A22, c22, wd, hap, hown, hgr⟩ := appd13 wc wn.heap.size _ m (acs l) [((t : Int), (f : Int))] 1 1 _ (some ⟨g21, 0, none⟩) 22 rfl H15.out (aq13_blk H21.out) (by omega) HSZc.out
                  rw [← acs_append] at hown
                  have H22 : Hid (Aq wd wd.heap.size A22 (l ++ [((t : Int), (f : Int))])) := Lib.hid (rv13_own2 hown)
                  have HBS := Lib.hid (HBS.out.grown hgr HSZc.out (fun r hr => (H15.out.lt r hr).1))
                  have HAP := Lib.hid hap
                  clear hap hown hgr
                  have hap := HAP.out
                  refine step_appd13 _ wd (by rfl) _ _ (by rfl) (by rfl) _ _ _ (by rfl) (by rfl) hap ?_
                  clear hap HAP
                  refine hK.out _ _ HBS.out (fun hHeld => ?_)
                  clear hK K
                  try dsimp only [Act.put]
                  try simp only [List.setIfInBounds_toArray, List.set_cons_zero, List.set_cons_succ]
                  refine wpAnyH_ready (rs := [23]) (by kernel_rfl) (by simp) (AllReadyH.cons (op_of rfl) (fun K hK => ?_) AllReadyH.nil)
                  go_simp
                  have hcc := dring13_any n i HNN.out A22 (l ++ [((t : Int), (f : Int))]) (m + 1) c22 zs wd (by rw [List.length_append, HL.out]; rfl) H22.out (by omega) HZ.out
                  rw [decide_eq_false HZN.out] at hcc
                  refine hcc.mono ?_
                  clear hcc
                  rintro en we ⟨rfl, hb⟩
                  have HBS := Lib.hid (HBS.out.trans (hb.mono HBS.out.size))
                  clear hb
                  refine hK.out _ _ HBS.out (fun hHeld => ?_)
                  clear hK K
                  try dsimp only [Act.put]
                  try simp only [List.setIfInBounds_toArray, List.set_cons_zero, List.set_cons_succ]
                  refine wpAnyH_take (i := 24) (v := ?_) (op_of rfl) (by kernel_rfl) (by kernel_rfl) (by kernel_rfl) (fun _ _ _ h => h) (Or.inl ⟨by rfl, fun W hS => ?_⟩) (by assumption) ?_
                  rotate_left
                  · try dsimp only at hS
                    go_simp
                    try with_reducible rfl
                  try dsimp only [Act.put]
                  try simp only [List.setIfInBounds_toArray, List.set_cons_zero, List.set_cons_succ]
                  refine wpAnyH_take (i := 25) (v := ?_) (op_of rfl) (by kernel_rfl) (by kernel_rfl) (by kernel_rfl) (fun _ _ _ h => h) (Or.inl ⟨by rfl, fun W hS => ?_⟩) (by assumption) ?_
                  rotate_left
                  · try dsimp only at hS
                    go_simp
                    try with_reducible rfl
                  try dsimp only [Act.put]
                  try simp only [List.setIfInBounds_toArray, List.set_cons_zero, List.set_cons_succ]
                  refine wpAnyH_done (by kernel_rfl) ?_ _
                  clear hHeld
                  have HI3 := Lib.hid (HIN.out.below HBS.out HIN.out.lt)
                  have HB3 := Lib.hid (HBR.out.trans (HBS.out.mono HBR.out.size))
                  go_wp2_with fail
                  go_roundw
                  case rel => exact ⟨k + 1, by go_num, by omega, HI3, HB3⟩
                  case measure => simp [intOf]; omega
                · skip
                  have HSZwa : Hid (wn.heap.size ≤ wa.heap.size) := Lib.hid HBS.out.size
                  obtain ⟨g21, hg21⟩ : ∃ k, wa.heap.size = k := ⟨_, rfl⟩
                  have H21 : Hid (Blk (wa.alloc (.cells #[.int .i64 (t : Int), .int .i64 (f : Int)] 39)) g21 39 #[.int .i64 (t : Int), .int .i64 (f : Int)]) := Lib.hid (by rw [← hg21]; exact Blk.new wa _ _)
                  have HNE : Hid (g21 ≠ g13) := Lib.hid (by have := (H13.out.lt g13 rfl).2; omega)
                  have H13 := Lib.hid (own12_keep2 H13.out (b1' wa (.cells #[.int .i64 (t : Int), .int .i64 (f : Int)] 39)))
                  have HBS := Lib.hid (HBS.out.trans ((b1' wa (.cells #[.int .i64 (t : Int), .int .i64 (f : Int)] 39)).mono HBS.out.size))
                  obtain ⟨wb, hwb⟩ : ∃ W, wa.alloc (.cells #[.int .i64 (t : Int), .int .i64 (f : Int)] 39) = W := ⟨_, rfl⟩
                  rw [hwb] at HBS H21 H13
                  go_simp
                  refine hK.out _ _ HBS.out (fun hHeld => ?_)
                  clear hK K
                  try dsimp only [Act.put]
                  try simp only [List.setIfInBounds_toArray, List.set_cons_zero, List.set_cons_succ]
                  refine wpAnyH_ready (rs := [15]) (by kernel_rfl) (by simp) (AllReadyH.cons (op_of rfl) (fun K hK => ?_) AllReadyH.nil)
                  have HSZwb : Hid (wn.heap.size ≤ wb.heap.size) := Lib.hid HBS.out.size
                  obtain ⟨A15, c15, wc, hap, hown, hgr⟩ := appd13 wb wn.heap.size _ 0 [] l m c _ (some ⟨ba, o, none⟩) 22 HL.out H13.out (Rv.step HAN.out HBS.out) (by omega) HSZwb.out
                  rw [Nat.zero_add, List.nil_append] at hown
                  rw [Nat.zero_add] at hap
                  have H15 := Lib.hid hown
                  have HBS := Lib.hid (HBS.out.grown hgr HSZwb.out (fun r hr => (H13.out.lt r hr).1))
                  have H21 := Lib.hid (H21.out.grown hgr (fun e => HNE.out (by injection e)))
                  have HAP := Lib.hid hap
                  clear hap hown hgr
                  have hap := HAP.out
                  refine step_appd13 _ wc (by rfl) _ _ (by rfl) (by rfl) _ _ _ (by rfl) (by rfl) hap ?_
                  clear hap HAP
                  refine hK.out _ _ HBS.out (fun hHeld => ?_)
                  clear hK K
                  try dsimp only [Act.put]
                  try simp only [List.setIfInBounds_toArray, List.set_cons_zero, List.set_cons_succ]
                  refine wpAnyH_ready (rs := [22]) (by kernel_rfl) (by simp) (AllReadyH.cons (op_of rfl) (fun K hK => ?_) AllReadyH.nil)
                  have HSZc : Hid (wn.heap.size ≤ wc.heap.size) := Lib.hid HBS.out.size
                  obtain ⟨A22, c22, wd, hap, hown, hgr⟩ := appd13 wc wn.heap.size _ m (acs l) [((t : Int), (f : Int))] 1 1 _ (some ⟨g21, 0, none⟩) 22 rfl H15.out (aq13_blk H21.out) (by omega) HSZc.out
                  rw [← acs_append] at hown
                  have H22 : Hid (Aq wd wd.heap.size A22 (l ++ [((t : Int), (f : Int))])) := Lib.hid (rv13_own2 hown)
                  have HBS := Lib.hid (HBS.out.grown hgr HSZc.out (fun r hr => (H15.out.lt r hr).1))
                  have HAP := Lib.hid hap
                  clear hap hown hgr
                  have hap := HAP.out
                  refine step_appd13 _ wd (by rfl) _ _ (by rfl) (by rfl) _ _ _ (by rfl) (by rfl) hap ?_
                  clear hap HAP
                  refine hK.out _ _ HBS.out (fun hHeld => ?_)
                  clear hK K
                  try dsimp only [Act.put]
                  try simp only [List.setIfInBounds_toArray, List.set_cons_zero, List.set_cons_succ]
                  refine wpAnyH_ready (rs := [23]) (by kernel_rfl) (by simp) (AllReadyH.cons (op_of rfl) (fun K hK => ?_) AllReadyH.nil)
                  go_simp
                  have hcc := dring13_any n i HNN.out A22 (l ++ [((t : Int), (f : Int))]) (m + 1) c22 zs wd (by rw [List.length_append, HL.out]; rfl) H22.out (by omega) HZ.out
                  rw [decide_eq_false HZN.out] at hcc
                  refine hcc.mono ?_
                  clear hcc
                  rintro en we ⟨rfl, hb⟩
                  have HBS := Lib.hid (HBS.out.trans (hb.mono HBS.out.size))
                  clear hb
                  refine hK.out _ _ HBS.out (fun hHeld => ?_)
                  clear hK K
                  try dsimp only [Act.put]
                  try simp only [List.setIfInBounds_toArray, List.set_cons_zero, List.set_cons_succ]
                  refine wpAnyH_take (i := 24) (v := ?_) (op_of rfl) (by kernel_rfl) (by kernel_rfl) (by kernel_rfl) (fun _ _ _ h => h) (Or.inl ⟨by rfl, fun W hS => ?_⟩) (by assumption) ?_
                  rotate_left
                  · try dsimp only at hS
                    go_simp
                    try with_reducible rfl
                  try dsimp only [Act.put]
                  try simp only [List.setIfInBounds_toArray, List.set_cons_zero, List.set_cons_succ]
                  refine wpAnyH_take (i := 25) (v := ?_) (op_of rfl) (by kernel_rfl) (by kernel_rfl) (by kernel_rfl) (fun _ _ _ h => h) (Or.inl ⟨by rfl, fun W hS => ?_⟩) (by assumption) ?_
                  rotate_left
                  · try dsimp only at hS
                    go_simp
                    try with_reducible rfl
                  try dsimp only [Act.put]
                  try simp only [List.setIfInBounds_toArray, List.set_cons_zero, List.set_cons_succ]
                  refine wpAnyH_done (by kernel_rfl) ?_ _
                  clear hHeld
                  have HI3 := Lib.hid (HIN.out.below HBS.out HIN.out.lt)
                  have HB3 := Lib.hid (HBR.out.trans (HBS.out.mono HBR.out.size))
                  go_wp2_with fail
                  go_roundw
                  case rel => exact ⟨k + 1, by go_num, by omega, HI3, HB3⟩
                  case measure => simp [intOf]; omega
              · skip
                have HSZwn : Hid (wn.heap.size ≤ wn.heap.size) := Lib.hid HBS.out.size
                obtain ⟨g21, hg21⟩ : ∃ k, wn.heap.size = k := ⟨_, rfl⟩
                have H21 : Hid (Blk (wn.alloc (.cells #[.int .i64 (t : Int), .int .i64 (f : Int)] 39)) g21 39 #[.int .i64 (t : Int), .int .i64 (f : Int)]) := Lib.hid (by rw [← hg21]; exact Blk.new wn _ _)
                have HBS := Lib.hid (HBS.out.trans ((b1' wn (.cells #[.int .i64 (t : Int), .int .i64 (f : Int)] 39)).mono HBS.out.size))
                obtain ⟨wa, hwa⟩ : ∃ W, wn.alloc (.cells #[.int .i64 (t : Int), .int .i64 (f : Int)] 39) = W := ⟨_, rfl⟩
                rw [hwa] at HBS H21
                go_simp
                refine hK.out _ _ HBS.out (fun hHeld => ?_)
                clear hK K
                try dsimp only [Act.put]
                try simp only [List.setIfInBounds_toArray, List.set_cons_zero, List.set_cons_succ]
                refine wpAnyH_ready (rs := [13]) (by kernel_rfl) (by simp) (AllReadyH.cons (op_of rfl) (fun K hK => ?_) AllReadyH.nil)
                have HSZwa : Hid (wn.heap.size ≤ wa.heap.size) := Lib.hid HBS.out.size
                obtain ⟨g13, hg13⟩ : ∃ k, wa.heap.size = k := ⟨_, rfl⟩
                have H13 : Hid ((wa.alloc (.cells #[] 39)).ownsRow wn.heap.size 39 2 (.slice (some ⟨g13, 0, none⟩) 0 0) 0 []) := Lib.hid (by rw [← hg13]; exact World.ownsRow_made wa #[] 0 HSZwa.out (Nat.zero_le _) rfl)
                have HNE : Hid (g21 ≠ g13) := Lib.hid (by have := H21.out.lt; omega)
                have H21 := Lib.hid (H21.out.below (b1' wa (.cells #[] 39)) H21.out.lt)
                have HBS := Lib.hid (HBS.out.trans ((b1' wa (.cells #[] 39)).mono HBS.out.size))
                obtain ⟨wb, hwb⟩ : ∃ W, wa.alloc (.cells #[] 39) = W := ⟨_, rfl⟩
                rw [hwb] at HBS H13 H21
                go_simp
                refine hK.out _ _ HBS.out (fun hHeld => ?_)
                clear hK K
                try dsimp only [Act.put]
                try simp only [List.setIfInBounds_toArray, List.set_cons_zero, List.set_cons_succ]
                refine wpAnyH_ready (rs := [15]) (by kernel_rfl) (by simp) (AllReadyH.cons (op_of rfl) (fun K hK => ?_) AllReadyH.nil)
                have HSZwb : Hid (wn.heap.size ≤ wb.heap.size) := Lib.hid HBS.out.size
                obtain ⟨A15, c15, wc, hap, hown, hgr⟩ := appd13 wb wn.heap.size _ 0 [] l m c _ (some ⟨ba, o, none⟩) 22 HL.out H13.out (Rv.step HAN.out HBS.out) (by omega) HSZwb.out
                rw [Nat.zero_add, List.nil_append] at hown
                rw [Nat.zero_add] at hap
                have H15 := Lib.hid hown
                have HBS := Lib.hid (HBS.out.grown hgr HSZwb.out (fun r hr => (H13.out.lt r hr).1))
                have H21 := Lib.hid (H21.out.grown hgr (fun e => HNE.out (by injection e)))
                have HAP := Lib.hid hap
                clear hap hown hgr
                have hap := HAP.out
                refine step_appd13 _ wc (by rfl) _ _ (by rfl) (by rfl) _ _ _ (by rfl) (by rfl) hap ?_
                clear hap HAP
                refine hK.out _ _ HBS.out (fun hHeld => ?_)
                clear hK K
                try dsimp only [Act.put]
                try simp only [List.setIfInBounds_toArray, List.set_cons_zero, List.set_cons_succ]
                refine wpAnyH_ready (rs := [22]) (by kernel_rfl) (by simp) (AllReadyH.cons (op_of rfl) (fun K hK => ?_) AllReadyH.nil)
                have HSZc : Hid (wn.heap.size ≤ wc.heap.size) := Lib.hid HBS.out.size
                obtain ⟨A22, c22, wd, hap, hown, hgr⟩ := appd13 wc wn.heap.size _ m (acs l) [((t : Int), (f : Int))] 1 1 _ (some ⟨g21, 0, none⟩) 22 rfl H15.out (aq13_blk H21.out) (by omega) HSZc.out
                rw [← acs_append] at hown
                have H22 : Hid (Aq wd wd.heap.size A22 (l ++ [((t : Int), (f : Int))])) := Lib.hid (rv13_own2 hown)
                have HBS := Lib.hid (HBS.out.grown hgr HSZc.out (fun r hr => (H15.out.lt r hr).1))
                have HAP := Lib.hid hap
                clear hap hown hgr
                have hap := HAP.out
                refine step_appd13 _ wd (by rfl) _ _ (by rfl) (by rfl) _ _ _ (by rfl) (by rfl) hap ?_
                clear hap HAP
                refine hK.out _ _ HBS.out (fun hHeld => ?_)
                clear hK K
                try dsimp only [Act.put]
                try simp only [List.setIfInBounds_toArray, List.set_cons_zero, List.set_cons_succ]
                refine wpAnyH_ready (rs := [23]) (by kernel_rfl) (by simp) (AllReadyH.cons (op_of rfl) (fun K hK => ?_) AllReadyH.nil)
                go_simp
                have hcc := dring13_any n i HNN.out A22 (l ++ [((t : Int), (f : Int))]) (m + 1) c22 zs wd (by rw [List.length_append, HL.out]; rfl) H22.out (by omega) HZ.out
                rw [decide_eq_false HZN.out] at hcc
                refine hcc.mono ?_
                clear hcc
                rintro en we ⟨rfl, hb⟩
                have HBS := Lib.hid (HBS.out.trans (hb.mono HBS.out.size))
                clear hb
                refine hK.out _ _ HBS.out (fun hHeld => ?_)
                clear hK K
                try dsimp only [Act.put]
                try simp only [List.setIfInBounds_toArray, List.set_cons_zero, List.set_cons_succ]
                refine wpAnyH_take (i := 24) (v := ?_) (op_of rfl) (by kernel_rfl) (by kernel_rfl) (by kernel_rfl) (fun _ _ _ h => h) (Or.inl ⟨by rfl, fun W hS => ?_⟩) (by assumption) ?_
                rotate_left
                · try dsimp only at hS
                  go_simp
                  try with_reducible rfl
                try dsimp only [Act.put]
                try simp only [List.setIfInBounds_toArray, List.set_cons_zero, List.set_cons_succ]
                refine wpAnyH_take (i := 25) (v := ?_) (op_of rfl) (by kernel_rfl) (by kernel_rfl) (by kernel_rfl) (fun _ _ _ h => h) (Or.inl ⟨by rfl, fun W hS => ?_⟩) (by assumption) ?_
                rotate_left
                · try dsimp only at hS
                  go_simp
                  try with_reducible rfl
                try dsimp only [Act.put]
                try simp only [List.setIfInBounds_toArray, List.set_cons_zero, List.set_cons_succ]
                refine wpAnyH_done (by kernel_rfl) ?_ _
                clear hHeld
                have HI3 := Lib.hid (HIN.out.below HBS.out HIN.out.lt)
                have HB3 := Lib.hid (HBR.out.trans (HBS.out.mono HBR.out.size))
                go_wp2_with fail
                go_roundw
                case rel => exact ⟨k + 1, by go_num, by omega, HI3, HB3⟩
                case measure => simp [intOf]; omega
            · have hcases : fi < 0 ∨ (¬ fi < 0 ∧ (i : Int) ≤ fi) ∨ (¬ fi < 0 ∧ ¬ (i : Int) ≤ fi ∧ ti < 0) ∨ (¬ fi < 0 ∧ ¬ (i : Int) ≤ fi ∧ ¬ ti < 0 ∧ (i : Int) ≤ ti) := by omega
              clear hin
              rcases hcases with h1 | ⟨h1, h2⟩ | ⟨h1, h2, h3⟩ | ⟨h1, h2, h3, h4⟩
              · go_wp2_with fail
                go_roundw
                case rel => exact ⟨k + 1, by go_num, by omega, HI1, HB1⟩
                case measure => simp [intOf]; omega
              · go_wp2_with fail
                go_roundw
                case rel => exact ⟨k + 1, by go_num, by omega, HI1, HB1⟩
                case measure => simp [intOf]; omega
              · go_wp2_with fail
                go_roundw
                case rel => exact ⟨k + 1, by go_num, by omega, HI1, HB1⟩
                case measure => simp [intOf]; omega
              · go_wp2_with fail
                go_roundw
                case rel => exact ⟨k + 1, by go_num, by omega, HI1, HB1⟩
                case measure => simp [intOf]; omega
          · obtain rfl : k = m := by omega
            have HCC := Lib.hid (HV.out wr)
            have HBF := Lib.hid (HB0.out.trans (HB.out.mono HB0.out.size))
            have k1 : ¬ (k : Int) < (k : Int) := by omega
            go_wp2_with fail
            refine HCC.out.mono ?_
            rintro e vz ⟨rfl, hb⟩
            have HBF := Lib.hid (HBF.out.trans (hb.mono HBF.out.size))
            clear HCC hb
            go_wp2_with fail
            go_ret
            exact ⟨rfl, HBF.out⟩
  · obtain rfl := ho2 hf
    rw [decide_eq_false hf]
    have hcc := dring13_any n N HNN.out Ad l m c os w3 HL.out HA3.out (by omega) HD.out
    rw [decide_eq_false hf] at hcc
    have HCC := Lib.hid hcc
    clear ho1 ho2 hb hf HC1 hcc
    go_wp2_with fail
    refine HCC.out.mono ?_
    rintro e w4 ⟨rfl, hb⟩
    have HB1 := Lib.hid (HB0.out.trans (hb.mono HB0.out.size))
    have HC2 := Lib.hid (HV.out w4)
    clear HCC hb
    go_wp2_with fail
    refine HC2.out.mono ?_
    rintro e w5 ⟨rfl, hb⟩
    have HB2 := Lib.hid (HB1.out.trans (hb.mono HB1.out.size))
    clear HC2 hb
    go_wp2_with fail
    go_ret
    exact ⟨rfl, HB2.out⟩
end Go.Proofs.Ytojdgcalpdbifaa
