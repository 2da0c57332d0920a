/-
  SaidStatePuts, part 19 of 26: what the theorem statePuts_holds reaches.
-/
import Derived.Test.YtfoellhoaflofaaGreatP18
import Derived.RangeFuncCalls
import Derived.Sort.OwnSortedInts
import Derived.KernelRfl
namespace Go.Proofs.YtfoellhoaflofaaGreat
open Go.RowKit
set_option maxRecDepth 100000
/-- The arrows of coins, of the first k tickets. -/
def cArr14 (S : Sv14) : Nat → List (Int × Int)
  | 0 => []
  | k + 1 => cArr14 S k ++ if (gt14 S.T k).u = true ∧ (gt14 S.T k).k = 2 then [((gt14 S.T k).c, (gt14 S.T k).t)] else []
/-- The arrows of threads, of the first k of them. -/
def tArr14 (S : Sv14) : Nat → List (Int × Int)
  | 0 => []
  | k + 1 => tArr14 S k ++ if (gt14 S.H k).s = 4 then [((k : Int), (gt14 S.H k).f)] else if (gt14 S.H k).s = 6 then [((k : Int), (at14 usL S.L (gt14 S.H k).f).h)] else []
theorem cArr14_len (S : Sv14) (k : Nat) : (cArr14 S k).length ≤ k := by
  induction k with
  | zero => exact Nat.le_refl _
  | succ k ih => rw [cArr14, List.length_append]; split <;> simp <;> omega
theorem tArr14_len (S : Sv14) (k : Nat) : (tArr14 S k).length ≤ k := by
  induction k with
  | zero => exact Nat.le_refl _
  | succ k ih => rw [tArr14, List.length_append]; split <;> try split
                 all_goals simp <;> omega
theorem info14A : (Tryz.prog.info? 85).map (fun i => (i.zero, i.size, i.bytes)) = some (some (.agg #[.int .i64 0, .int .i64 0]), 2, 16) := by kernel_rfl
theorem aq14_own {w : World} {base : Nat} {e : TypeId} {A : Option Addr} {c n : Nat} {l : List (Int × Int)} (h : w.ownsRow base e 2 (.slice A n c) n (acs l)) : Aq w w.heap.size A l := by
  intro hx
  have hl := h.1
  have hpos : 0 < (acs l).length := List.length_pos_iff.2 hx
  rcases h.2 with ⟨_, h1⟩ | ⟨g, cap, cur, hv, _, hh, _⟩
  · subst h1
    rw [hl, Nat.zero_mul] at hpos
    omega
  · have hA : A = some ⟨g, 0, none⟩ := by injection hv
    subst hA
    refine ⟨g, 0, rfl, (h.lt g rfl).2, fun i v hk => ?_⟩
    have hc := h.cells (g := g) rfl i _ hk
    rw [Go.WideShapes.add_plain] at hc
    exact hc
/-- A list of arrows is answered. -/
def RetAq14 (w : World) (l : List (Int × Int)) (e : Ending) (w' : World) : Prop := ∃ A c, e = .returned (.slice A l.length c) ∧ Aq w' w'.heap.size A l ∧ Below w.heap.size w w'
/-- Between two rounds: the row of arrows so far. -/
structure Ar14 (w : World) (S : Sv14) (A0 A1 A2 A3 A4 : Option Addr) (n0 n1 n2 n3 n4 c0 c1 c2 c3 c4 : Nat) (sq : Int) (A : Option Addr) (m c : Nat) (l : List (Int × Int)) (W : World) : Prop where
  b : Bx14 w S A0 A1 A2 A3 A4 n0 n1 n2 n3 n4 c0 c1 c2 c3 c4 sq W
  o : W.ownsRow (w.heap.size + 1) 85 2 (.slice A m c) m (acs l)
  l : l.length = m
theorem Ar14.step {w : World} {S : Sv14} {A0 A1 A2 A3 A4 : Option Addr} {n0 n1 n2 n3 n4 c0 c1 c2 c3 c4 : Nat} {sq : Int} {A : Option Addr} {m c : Nat} {l : List (Int × Int)} {W W' : World} (h : Ar14 w S A0 A1 A2 A3 A4 n0 n1 n2 n3 n4 c0 c1 c2 c3 c4 sq A m c l W) (hb : Below W.heap.size W W') : Ar14 w S A0 A1 A2 A3 A4 n0 n1 n2 n3 n4 c0 c1 c2 c3 c4 sq A m c l W' :=
  ⟨h.b.step hb, own12_keep2 h.o hb, h.l⟩
theorem Ar14.congr {w : World} {S : Sv14} {A0 A1 A2 A3 A4 : Option Addr} {n0 n1 n2 n3 n4 c0 c1 c2 c3 c4 : Nat} {sq : Int} {A : Option Addr} {m c : Nat} {l l2 : List (Int × Int)} {W : World} (h : Ar14 w S A0 A1 A2 A3 A4 n0 n1 n2 n3 n4 c0 c1 c2 c3 c4 sq A m c l W) (e : l = l2) : Ar14 w S A0 A1 A2 A3 A4 n0 n1 n2 n3 n4 c0 c1 c2 c3 c4 sq A m c l2 W := e ▸ h
/-- An arrow is appended. -/
theorem Ar14.push {w : World} {S : Sv14} {A0 A1 A2 A3 A4 : Option Addr} {n0 n1 n2 n3 n4 c0 c1 c2 c3 c4 : Nat} {sq : Int} {A : Option Addr} {m c : Nat} {l : List (Int × Int)} {W : World} (hs : SA14 w S A0 A1 A2 A3 A4 n0 n1 n2 n3 n4 c0 c1 c2 c3 c4 sq) (h : Ar14 w S A0 A1 A2 A3 A4 n0 n1 n2 n3 n4 c0 c1 c2 c3 c4 sq A m c l W) (x y : Int) (hm : m ≤ 2000) :
    ∃ Az cz W2, (Builtin.append_ #[37, 37] 37 #[.slice A m c, .slice (some ⟨W.heap.size, 0, none⟩) 1 1]).run Tryz.prog (W.alloc (.cells #[.int .i64 x, .int .i64 y] 85)) = .ok (.slice Az (m + 1) cz) W2 ∧ Ar14 w S A0 A1 A2 A3 A4 n0 n1 n2 n3 n4 c0 c1 c2 c3 c4 sq Az (m + 1) cz (l ++ [(x, y)]) W2 := by
  have hbz := b1' W (.cells #[.int .i64 x, .int .i64 y] 85)
  have hkz := Blk.new W 85 #[.int .i64 x, .int .i64 y]
  have h1 := h.step hbz
  have hsy : (W.alloc (.cells #[.int .i64 x, .int .i64 y] 85)).heap.size = W.heap.size + 1 := by simp
  obtain ⟨Y, hY⟩ : ∃ Y, W.alloc (.cells #[.int .i64 x, .int .i64 y] 85) = Y := ⟨_, rfl⟩
  rw [hY] at hbz hkz h1 hsy ⊢
  have hrv : Rv Y Y.heap.size (some ⟨W.heap.size, 0, none⟩) [.int .i64 x, .int .i64 y] := fun _ => ⟨W.heap.size, 0, rfl, by omega, fun j v hj => by rw [Nat.zero_add, hkz.cell]; simpa using hj⟩
  have hxl := h1.b.x.lt
  obtain ⟨Az, cz, W2, hrun, hown, hg⟩ := run_append_14 (P := Tryz.prog) Y (w.heap.size + 1) 37 37 85 _ 2 16 Tryz.underlying37 info14A rfl (by omega) (by omega) _ m _ h1.o Y.heap.size (some ⟨W.heap.size, 0, none⟩) [.int .i64 x, .int .i64 y] 1 1 rfl hrv (by simp [Value.oneCell']) (by omega) (by omega)
  have hB : Below w.heap.size w W2 := h1.b.b.grown hg h1.b.b.size (fun r hr => by have := (h1.o.lt r hr).1; omega)
  refine ⟨Az, cz, W2, hrun, ⟨hB, h1.b.x.grown hg (fun e => by have := (h1.o.lt _ e.symm).1; omega), hs.step hB⟩, ?_, by simp [h.l]⟩
  rw [acs_append]
  exact hown
set_option maxHeartbeats 2000000 in
theorem coinArrows14 (v : Value) (S : Sv14) (w : World) (h : St14 w v S) : Calls Tryz.prog 16 #[v] w (RetAq14 w (cArr14 S S.T.length)) := by
  obtain ⟨A0, A1, A2, A3, A4, n0, n1, n2, n3, n4, c0, c1, c2, c3, c4, sq, rfl, hs⟩ := h
  have HP : Hid (RetAq14 w (cArr14 S S.T.length) = fun e w' => ∃ A c, e = .returned (.slice A (cArr14 S n1).length c) ∧ Aq w' w'.heap.size A (cArr14 S n1) ∧ Below w.heap.size w w') := Lib.hid (by rw [hs.l1]; rfl)
  have HX0 : Hid (Ar14 w S A0 A1 A2 A3 A4 n0 n1 n2 n3 n4 c0 c1 c2 c3 c4 sq none 0 0 (cArr14 S 0) (w.alloc (.cells #[.slice A0 n0 c0, .slice A1 n1 c1, .slice A2 n2 c2, .slice A3 n3 c3, .slice A4 n4 c4, .int .i64 sq] 28))) := Lib.hid ⟨Bx14.new hs, World.ownsRow_nil _ _ _ _, rfl⟩
  have HS := Lib.hid hs
  have hnb := hs.m1
  have t1 := HX0.out.b.x.cell 1
  clear hs
  go_enter Tryz.func16, Tryz.ntmps16
  go_wp2_with fail
  clear t1
  go_loopw [2, 8] (fun v i wr => ∃ (k : Nat) (A : Option Addr) (m c : Nat), v = .slice A m c ∧ i = .int .i64 (k : Int) ∧ k ≤ n1 ∧ Hid (Ar14 w S A0 A1 A2 A3 A4 n0 n1 n2 n3 n4 c0 c1 c2 c3 c4 sq A m c (cArr14 S k) wr)) (fun _ i _ => n1 - (intOf i).toNat)
  case atStart => exact ⟨0, none, 0, 0, rfl, rfl, by omega, HX0⟩
  case round =>
    obtain ⟨k, A, m, c, rfl, rfl, hk, HW⟩ := hrel
    by_cases hkn : k < n1
    · skip
      obtain ⟨a, of, hA, hab, hq⟩ := Lq.at_ len14T (by omega) HW.out.b.s.r1 (show k < S.T.length by rw [HW.out.b.s.l1]; omega)
      have HAE := Lib.hid hA
      obtain ⟨x, hx⟩ : ∃ x, gt14 S.T k = x := ⟨_, rfl⟩
      rw [hx] at hq
      obtain ⟨xu, xc, xa, xk, xt, xo⟩ := x
      have e0 : wr.cell? ⟨a, of + k * 6, none⟩ = some (.bool xu) := hq 0 _ rfl
      have e1 : wr.cell? ⟨a, of + k * 6 + 1, none⟩ = some (.int .i64 xc) := hq 1 _ rfl
      have e2 : wr.cell? ⟨a, of + k * 6 + 2, none⟩ = some (.int .i64 xa) := hq 2 _ rfl
      have e3 : wr.cell? ⟨a, of + k * 6 + 3, none⟩ = some (.int .i64 xk) := hq 3 _ rfl
      have e4 : wr.cell? ⟨a, of + k * 6 + 4, none⟩ = some (.int .i64 xt) := hq 4 _ rfl
      have e5 : wr.cell? ⟨a, of + k * 6 + 5, none⟩ = some (.bool xo) := hq 5 _ rfl
      have i0 : (0 : Int) ≤ (k : Int) := by omega
      have i1 : (k : Int) < (n1 : Int) := by omega
      have HV := Lib.hid (Ar14.step HW.out (b1' wr (.cells #[.bool xu, .int .i64 xc, .int .i64 xa, .int .i64 xk, .int .i64 xt, .bool xo] 43)))
      have hv := Blk.new wr 43 #[.bool xu, .int .i64 xc, .int .i64 xa, .int .i64 xk, .int .i64 xt, .bool xo]
      have v0 := hv.cell 0
      have v1 := hv.cell 1
      have v2 := hv.cell 2
      have v3 := hv.cell 3
      have v4 := hv.cell 4
      have v5 := hv.cell 5
      have HVB := Lib.hid hv
      have HXE := Lib.hid hx
      have p0 := HV.out.b.x.cell 0
      have p1 := HV.out.b.x.cell 1
      have p2 := HV.out.b.x.cell 2
      have p3 := HV.out.b.x.cell 3
      have p4 := HV.out.b.x.cell 4
      have p5 := HV.out.b.x.cell 5
      obtain ⟨X, hX⟩ : ∃ X, wr.alloc (.cells #[.bool xu, .int .i64 xc, .int .i64 xa, .int .i64 xk, .int .i64 xt, .bool xo] 43) = X := ⟨_, rfl⟩
      rw [hX] at HV HVB v0 v1 v2 v3 v4 v5 p0 p1 p2 p3 p4 p5
      clear hv hq hx hab
      subst hA
      have hmk : m ≤ k := by rw [← HW.out.l]; exact cArr14_len S k
      cases xu with
      | false =>
        have HN := Lib.hid (HV.out.congr (l2 := cArr14 S (k + 1)) (by rw [cArr14, HXE.out, if_neg (by simp), List.append_nil]))
        go_wp2_with fail
        go_roundw
        case rel => exact ⟨k + 1, A, m, c, rfl, by go_num, by omega, HN⟩
        case measure => simp [intOf]; omega
      | true =>
        by_cases k2 : xk = 2
        · subst k2
          have HE : Hid (cArr14 S (k + 1) = cArr14 S k ++ [(xc, xt)]) := Lib.hid (by rw [cArr14, HXE.out, if_pos (by simp)])
          obtain ⟨Az, cz, W2, hrun, har⟩ := HV.out.push HS.out xc xt (by omega)
          have HRUN := Lib.hid hrun
          have HAR := Lib.hid (har.congr HE.out.symm)
          clear hrun har
          go_wp2_with (at_builtin; go_loud (refine wpList_append_14 _ rfl (.tmp 19) (.tmp 25) 37 rfl _ _ _ _ rfl rfl HRUN.out ?_))
          go_roundw
          case rel => exact ⟨k + 1, Az, m + 1, cz, rfl, by go_num, by omega, HAR⟩
          case measure => simp [intOf]; omega
        · have HN := Lib.hid (HV.out.congr (l2 := cArr14 S (k + 1)) (by rw [cArr14, HXE.out, if_neg (by simp [k2]), List.append_nil]))
          go_wp2_with fail
          go_roundw
          case rel => exact ⟨k + 1, A, m, c, rfl, by go_num, by omega, HN⟩
          case measure => simp [intOf]; omega
    · obtain rfl : k = n1 := by omega
      have HL := Lib.hid HW.out.l
      have h1 : ¬ (k : Int) < (k : Int) := by omega
      go_wp2_with fail
      go_ret
      rw [HP.out]
      exact ⟨A, c, by rw [HL.out]; rfl, aq14_own HW.out.o, HW.out.b.b⟩
set_option maxHeartbeats 2000000 in
theorem threadArrows14 (v : Value) (S : Sv14) (w : World) (h : St14 w v S) : Calls Tryz.prog 18 #[v] w (RetAq14 w (tArr14 S S.H.length)) := by
  obtain ⟨A0, A1, A2, A3, A4, n0, n1, n2, n3, n4, c0, c1, c2, c3, c4, sq, rfl, hs⟩ := h
  have HP : Hid (RetAq14 w (tArr14 S S.H.length) = fun e w' => ∃ A c, e = .returned (.slice A (tArr14 S n2).length c) ∧ Aq w' w'.heap.size A (tArr14 S n2) ∧ Below w.heap.size w w') := Lib.hid (by rw [hs.l2]; rfl)
  have HX0 : Hid (Ar14 w S A0 A1 A2 A3 A4 n0 n1 n2 n3 n4 c0 c1 c2 c3 c4 sq none 0 0 (tArr14 S 0) (w.alloc (.cells #[.slice A0 n0 c0, .slice A1 n1 c1, .slice A2 n2 c2, .slice A3 n3 c3, .slice A4 n4 c4, .int .i64 sq] 28))) := Lib.hid ⟨Bx14.new hs, World.ownsRow_nil _ _ _ _, rfl⟩
  have HS := Lib.hid hs
  have hnb := hs.m2
  have t1 := HX0.out.b.x.cell 2
  clear hs
  go_enter Tryz.func18, Tryz.ntmps18
  go_wp2_with fail
  clear t1
  go_loopw [2, 10] (fun v i wr => ∃ (k : Nat) (A : Option Addr) (m c : Nat), v = .slice A m c ∧ i = .int .i64 (k : Int) ∧ k ≤ n2 ∧ Hid (Ar14 w S A0 A1 A2 A3 A4 n0 n1 n2 n3 n4 c0 c1 c2 c3 c4 sq A m c (tArr14 S k) wr)) (fun _ i _ => n2 - (intOf i).toNat)
  case atStart => exact ⟨0, none, 0, 0, rfl, rfl, by omega, HX0⟩
  case round =>
    obtain ⟨k, A, m, c, rfl, rfl, hk, HW⟩ := hrel
    by_cases hkn : k < n2
    · skip
      obtain ⟨a, of, hA, hab, hq⟩ := Lq.at_ len14H (by omega) HW.out.b.s.r2 (show k < S.H.length by rw [HW.out.b.s.l2]; omega)
      have HAE := Lib.hid hA
      obtain ⟨x, hx⟩ : ∃ x, gt14 S.H k = x := ⟨_, rfl⟩
      rw [hx] at hq
      obtain ⟨xz, xf, xc, xq, xu⟩ := x
      have e0 : wr.cell? ⟨a, of + k * 5, none⟩ = some (.int .i64 xz) := hq 0 _ rfl
      have e1 : wr.cell? ⟨a, of + k * 5 + 1, none⟩ = some (.int .i64 xf) := hq 1 _ rfl
      have e2 : wr.cell? ⟨a, of + k * 5 + 2, none⟩ = some (.int .i64 xc) := hq 2 _ rfl
      have e3 : wr.cell? ⟨a, of + k * 5 + 3, none⟩ = some (.int .i64 xq) := hq 3 _ rfl
      have e4 : wr.cell? ⟨a, of + k * 5 + 4, none⟩ = some (.int .i64 xu) := hq 4 _ rfl
      have i0 : (0 : Int) ≤ (k : Int) := by omega
      have i1 : (k : Int) < (n2 : Int) := by omega
      have HV := Lib.hid (Ar14.step HW.out (b1' wr (.cells #[.int .i64 xz, .int .i64 xf, .int .i64 xc, .int .i64 xq, .int .i64 xu] 45)))
      have hv := Blk.new wr 45 #[.int .i64 xz, .int .i64 xf, .int .i64 xc, .int .i64 xq, .int .i64 xu]
      have v0 := hv.cell 0
      have v1 := hv.cell 1
      have v2 := hv.cell 2
      have v3 := hv.cell 3
      have v4 := hv.cell 4
      have HVB := Lib.hid hv
      have HXE := Lib.hid hx
      have p0 := HV.out.b.x.cell 0
      have p1 := HV.out.b.x.cell 1
      have p2 := HV.out.b.x.cell 2
      have p3 := HV.out.b.x.cell 3
      have p4 := HV.out.b.x.cell 4
      have p5 := HV.out.b.x.cell 5
      obtain ⟨X, hX⟩ : ∃ X, wr.alloc (.cells #[.int .i64 xz, .int .i64 xf, .int .i64 xc, .int .i64 xq, .int .i64 xu] 45) = X := ⟨_, rfl⟩
      rw [hX] at HV HVB v0 v1 v2 v3 v4 p0 p1 p2 p3 p4 p5
      clear hv hq hx hab
      subst hA
      have hmk : m ≤ k := by rw [← HW.out.l]; exact tArr14_len S k
      by_cases z4 : xz = 4
      · subst z4
        have HE : Hid (tArr14 S (k + 1) = tArr14 S k ++ [((k : Int), xf)]) := Lib.hid (by rw [tArr14, HXE.out, if_pos rfl])
        obtain ⟨Az, cz, W2, hrun, har⟩ := HV.out.push HS.out (k : Int) xf (by omega)
        have HRUN := Lib.hid hrun
        have HAR := Lib.hid (har.congr HE.out.symm)
        clear hrun har
        go_wp2_with (at_builtin; go_loud (refine wpList_append_14 _ rfl (.tmp 19) (.tmp 24) 37 rfl _ _ _ _ rfl rfl HRUN.out ?_))
        go_roundw
        case rel => exact ⟨k + 1, Az, m + 1, cz, rfl, by go_num, by omega, HAR⟩
        case measure => simp [intOf]; omega
      · by_cases z6 : xz = 6
        · subst z6
          obtain ⟨y, hy⟩ : ∃ y, at14 usL S.L xf = y := ⟨_, rfl⟩
          obtain ⟨yu, yh⟩ := y
          have HE : Hid (tArr14 S (k + 1) = tArr14 S k ++ [((k : Int), yh)]) := Lib.hid (by rw [tArr14, HXE.out, if_neg (by simp), if_pos rfl, hy])
          have HLK := Lib.hid (lock14 _ S xf yu yh _ X HV.out.b.st rfl hy)
          clear hy
          go_wp2_with fail
          refine HLK.out.mono ?_
          rintro e u ⟨rfl, hbu⟩
          have HU := Lib.hid (Ar14.step (HV.out.step hbu) (b1' u (.cells #[.bool yu, .int .i64 yh] 47)))
          have hky := Blk.new u 47 #[.bool yu, .int .i64 yh]
          have y1 := hky.cell 1
          obtain ⟨Z, hZ⟩ : ∃ Z, u.alloc (.cells #[.bool yu, .int .i64 yh] 47) = Z := ⟨_, rfl⟩
          rw [hZ] at HU y1
          clear HLK hbu hky
          obtain ⟨Az, cz, W2, hrun, har⟩ := HU.out.push HS.out (k : Int) yh (by omega)
          have HRUN := Lib.hid hrun
          have HAR := Lib.hid (har.congr HE.out.symm)
          clear hrun har
          go_wp2_with (at_builtin; go_loud (refine wpList_append_14 _ rfl (.tmp 35) (.tmp 40) 37 rfl _ _ _ _ rfl rfl HRUN.out ?_))
          go_roundw
          case rel => exact ⟨k + 1, Az, m + 1, cz, rfl, by go_num, by omega, HAR⟩
          case measure => simp [intOf]; omega
        · have HN := Lib.hid (HV.out.congr (l2 := tArr14 S (k + 1)) (by rw [tArr14, HXE.out, if_neg z4, if_neg z6, List.append_nil]))
          go_wp2_with fail
          go_roundw
          case rel => exact ⟨k + 1, A, m, c, rfl, by go_num, by omega, HN⟩
          case measure => simp [intOf]; omega
    · obtain rfl : k = n2 := by omega
      have HL := Lib.hid HW.out.l
      have h1 : ¬ (k : Int) < (k : Int) := by omega
      go_wp2_with fail
      go_ret
      rw [HP.out]
      exact ⟨A, c, by rw [HL.out]; rfl, aq14_own HW.out.o, HW.out.b.b⟩
end Go.Proofs.YtfoellhoaflofaaGreat
namespace Go.Proofs.YtfoellhoaflofaaGreat
open Go.RowKit Go.Shelf
attribute [local go_sem] Oper.semAt_some
set_option maxRecDepth 100000
set_option maxHeartbeats 1000000 in
theorem values14 (A : Option Addr) (n c : Nat) (w : World) :
    Calls Tryz.prog 96 #[.slice A n c] w fun e w' => e = .returned (.func (.func 118) #[] #[.pointer (some ⟨w.heap.size, 0, none⟩)]) ∧ w' = w.alloc (.cells #[.slice A n c] 26) := by
  have hmf : ∀ (fn : Fn) (first cap : Array Value) (w : World), (Instr.makeFunc fn first cap).run Tryz.prog w = .ok (.func fn first cap) w := fun _ _ _ _ => rfl
  go_enter Tryz.func96, Tryz.ntmps96
  go_wp2_with fail
  go_ret
  exact ⟨rfl, rfl⟩
/-- What the k-th round is handed. -/
def venc14 (zs : List Int) (k : Nat) : Array Value := #[.int .i64 (gt14 zs k)]
/-- What must stay behind each round. -/
def vkeep14 (lb _ : Nat) (p : Addr) : Prop := p.block = lb
/-- The list's cells. -/
def Zq14 (w : World) (lb : Nat) (A : Option Addr) (zs : List Int) : Prop := zs = [] ∨ ∃ o, A = some ⟨lb, o, none⟩ ∧ lb < w.heap.size ∧ ∀ t, t < zs.length → w.cell? ⟨lb, o + t, none⟩ = some (.int .i64 (gt14 zs t))
theorem zq14_of {w : World} {A : Option Addr} {zs : List Int} (h0 : 0 < w.heap.size) (h : Lq clI w w.heap.size A zs) : ∃ lb, lb < w.heap.size ∧ Zq14 w lb A zs := by
  by_cases hz : zs = []
  · exact ⟨0, by omega, .inl hz⟩
  · have hl : 0 < zs.length := List.length_pos_iff.2 hz
    obtain ⟨b, o, hA, hb, _⟩ := Lq.at_ len14I (by omega) h hl
    refine ⟨b, by omega, .inr ⟨o, hA, hb, fun t ht => ?_⟩⟩
    obtain ⟨b2, o2, hA2, _, hq⟩ := Lq.at_ len14I (by omega) h ht
    rw [hA] at hA2
    injection hA2 with hA2
    injection hA2 with h1 h2
    subst h1 h2
    have h3 := hq 0 _ rfl
    rwa [Nat.mul_one] at h3
theorem Zq14.below {w w' : World} {lb : Nat} {A : Option Addr} {zs : List Int} (h : Zq14 w lb A zs) (hb : Below w.heap.size w w') : Zq14 w' lb A zs := by
  rcases h with h | ⟨o, h1, h2, h3⟩
  · exact .inl h
  · exact .inr ⟨o, h1, Nat.lt_of_lt_of_le h2 hb.size, fun t ht => (hb.cell (p := ⟨lb, o + t, none⟩) h2).trans (h3 t ht)⟩
theorem Zq14.same {w w' : World} {lb k : Nat} {A : Option Addr} {zs : List Int} (h : Zq14 w lb A zs) (hs : Same (vkeep14 lb k) w w') : Zq14 w' lb A zs := by
  rcases h with h | ⟨o, h1, h2, h3⟩
  · exact .inl h
  · exact .inr ⟨o, h1, Nat.lt_of_lt_of_le h2 hs.size, fun t ht => hs.cell _ _ rfl (h3 t ht)⟩
set_option maxHeartbeats 2000000 in
theorem goes14 (F : Fence) (n : Nat) (hf : F.fn 118) (hro : F.round = none) (hn : 1 ≤ n) (Bs lb N c : Nat) (A : Option Addr) (zs : List Int) (w : World) (hl : zs.length = N) (hi : Zq14 w lb A zs) (hN : N ≤ 1000000)
    (hb : w.cell? ⟨Bs, 0, none⟩ = some (.slice A N c)) :
    Goes F n Tryz.prog 118 #[.pointer (some ⟨Bs, 0, none⟩)] (venc14 zs) (vkeep14 lb) N w := fun l J Jx W hW _ _ hY h0 => by
  have hBs := World.block_lt_of_cell? w _ hb
  have hb1 := (hW.cell hBs).trans hb
  have HZ0 := Lib.hid (hi.below hW)
  have HL := Lib.hid hl
  clear hb hi hl
  refine callsIn_of_wp Tryz.func118 rfl hf ?_ hro
  simp only [Tryz.ntmps118, List.size_toArray, List.length_cons, List.length_nil, Nat.reduceAdd, Nat.reduceSub, Array.replicate_succ, Array.replicate_zero, List.push_toArray, List.append_toArray, List.nil_append, List.cons_append]
  gi_wp2
  clear hb1
  gi_loopw [7] (fun i wr => ∃ m : Nat, i = .int .i64 (m : Int) ∧ m ≤ N ∧ J m wr ∧ Hid (Zq14 wr lb A zs)) (fun i _ => N - (intOf i).toNat)
  case atStart => exact ⟨0, rfl, by omega, h0, HZ0⟩
  case round =>
    obtain ⟨m, rfl, hm, hJ, HZ⟩ := hrel
    by_cases hpos : m < N
    · have hz := HZ.out
      have hne : ¬ zs = [] := by
        intro h
        have := HL.out
        rw [h] at this
        simp at this
        omega
      obtain ⟨o, hA, hlb, hcs⟩ := hz.resolve_left hne
      subst hA
      have hcx := hcs m (by rw [HL.out]; exact hpos)
      have hq0 : (0 : Int) ≤ (m : Int) := by omega
      have hq1 : (m : Int) < (N : Int) := by omega
      obtain ⟨fn, tmps, assign, body, hy, hR⟩ := hY m wr (by omega) hJ
      simp only [venc14] at hy
      obtain ⟨x, hx⟩ : ∃ x, gt14 zs m = x := ⟨_, rfl⟩
      rw [hx] at hy hcx
      clear hz hne hcs hx
      gi_wp2
      refine hR.mono ?_
      rintro e W3 (⟨rfl, hJ3, hk3⟩ | ⟨rfl, hJx3⟩)
      · have HZ3 := Lib.hid (HZ.out.same hk3)
        have HJ := Lib.hid hJ3
        clear hk3 hJ3 hJ
        gi_wp2
        go_roundw
        case rel => exact ⟨m + 1, by go_num, by omega, HJ.out, HZ3⟩
        case measure => simp [intOf]; omega
      · gi_wp2
        refine bodyPost_ret (results_none rfl _ _ _) rfl ?_
        exact ⟨⟨_, rfl⟩, .inr ⟨m, by omega, hJx3⟩⟩
    · obtain rfl : m = N := by omega
      have hq1 : ¬ (m : Int) < (m : Int) := by omega
      have HJ : Hid (J m wr) := Lib.hid hJ
      clear hJ
      gi_wp2
      go_end0
      exact ⟨⟨_, rfl⟩, .inl HJ.out⟩
/-- A list that one makes: its variable at block O, the elements so far. -/
structure RowZ (w : World) (O B : Nat) (xs : List Int) (W : World) : Prop where
  below : Below w.heap.size w W
  bsz : B ≤ W.heap.size
  row : ∃ A c, Blk W O 26 #[.slice A xs.length c] ∧ W.ownsRow B 3 1 (.slice A xs.length c) xs.length (fl14 clI xs)
theorem RowZ.kept {w : World} {O B : Nat} {xs : List Int} {X Y : World} {row : Option Nat} (h : RowZ w O B xs X) (hg : X.grownBy Y row) {C : Nat} (hC : w.heap.size ≤ C)
    (hr : ∀ r, row = some r → C ≤ r ∧ ∃ o : Obj, X.heap[r]? = some o ∧ o.isCells = false) : RowZ w O B xs Y := by
  obtain ⟨A, c, h1, h2⟩ := h.row
  exact ⟨h.below.grown hg h.below.size (fun r e => by have := (hr r e).1; omega), Nat.le_trans h.bsz hg.size, A, c, blk11_kept h1 hg (fun r e => (hr r e).2), own11_kept h2 hg (fun r e => (hr r e).2)⟩
theorem RowZ.next {w : World} {O B k : Nat} {xs : List Int} {x : Int} {A5 : Option Addr} {c5 : Nat} {X Y : World} {A6 : Option Addr} {c6 : Nat} (h : RowZ w O B xs X) (hO : O < B) (hw : w.heap.size ≤ O) (hx : xs.length = k)
    (hb : Blk X O 26 #[.slice A5 k c5]) (hown : X.ownsRow B 3 1 (.slice A5 k c5) k (fl14 clI xs))
    (hg : (X.alloc (.cells #[.int .i64 x] 3)).grownBy Y (Value.slice A5 k c5).ownBlock) (h6 : Y.ownsRow B 3 1 (.slice A6 (k + 1) c6) (k + 1) (fl14 clI xs ++ [.int .i64 x])) :
    RowZ w O B (xs ++ [x]) (Y.setCell ⟨O, 0, none⟩ (.slice A6 (k + 1) c6)) ∧ Blk Y O 26 #[.slice A5 k c5] ∧ KeepsOthers X Y ∧ Below B X Y := by
  have hOA := own7_keep hown (b1' X (.cells #[.int .i64 x] 3))
  have hsz := hg.size
  rw [World.size_alloc] at hsz
  have hbY := (hb.alloc (.cells #[.int .i64 x] 3)).grown hg (fun e => own11_base hOA hO e.symm)
  have hX := h.below
  have hBX := h.bsz
  have hxy : Below B X Y := ((b1' X _).mono hBX).grown hg (by simp; omega) (fun r hr => (World.ownsRow.lt hOA r hr).1)
  have hz : (Y.setCell ⟨O, 0, none⟩ (.slice A6 (k + 1) c6)).heap.size = Y.heap.size := by simp [World.setCell]
  refine ⟨⟨(hX.trans (hxy.mono (by omega))).setCell hw _, by rw [hz]; omega, A6, c6, ?_, ?_⟩, hbY, (ko11_below (b1' X _)).trans (ko11_owned hOA hg), hxy⟩
  · have h1 := hbY.set_ 0 (.slice A6 (k + 1) c6)
    rw [List.length_append, hx]
    exact h1
  · rw [List.length_append, hx, fl14_append]
    exact own7_far h6 (grownBy_setCell' Y O _) (own11_base h6 hO)
/-- What Collect says. -/
def RetZ (w : World) (xs : List Int) (e : Ending) (w' : World) : Prop := ∃ A c, e = .returned (.slice A xs.length c) ∧ w'.ownsRow w.heap.size 3 1 (.slice A xs.length c) xs.length (fl14 clI xs) ∧ Below w.heap.size w w'
set_option maxHeartbeats 4000000 in
theorem appendSeq14 (Bs lb N c : Nat) (A : Option Addr) (zs : List Int) (w : World) (hl : zs.length = N) (hi : Zq14 w lb A zs) (hlb : lb < w.heap.size) (hN : N ≤ 100000) (hb : w.cell? ⟨Bs, 0, none⟩ = some (.slice A N c)) :
    Calls Tryz.prog 127 #[.slice none 0 0, .func (.func 118) #[] #[.pointer (some ⟨Bs, 0, none⟩)]] w (RetZ w zs) := by
  have HP : Hid (RetZ w zs = fun e w' => ∃ A c, e = .returned (.slice A N c) ∧ w'.ownsRow w.heap.size 3 1 (.slice A N c) N (fl14 clI zs) ∧ Below w.heap.size w w') := Lib.hid (by rw [← hl]; rfl)
  have HL := Lib.hid hl
  have hb0 := b1' w (.cells #[.slice none 0 0] 26)
  have f3 := Blk.new w 26 #[.slice none 0 0]
  have hsz0 : (w.alloc (.cells #[.slice none 0 0] 26)).heap.size = w.heap.size + 1 := by simp
  have hBs := World.block_lt_of_cell? w _ hb
  have f2 := (hb0.cell (p := ⟨Bs, 0, none⟩) hBs).trans hb
  have hi0 := hi.below hb0
  obtain ⟨W0, hW0⟩ : ∃ W, w.alloc (.cells #[.slice none 0 0] 26) = W := ⟨_, rfl⟩
  rw [hW0] at hb0 f3 hsz0 f2 hi0
  have hgo := goes14 Fence.wide 4 trivial rfl (by omega) Bs lb N c A zs W0 hl hi0 (by omega) f2
  have HI0 : Hid (RowZ w w.heap.size (w.heap.size + 1) (zs.take 0) W0) := Lib.hid ⟨hb0, by omega, none, 0, f3, World.ownsRow_nil _ _ _ _⟩
  have HSZ := Lib.hid hsz0
  clear f2 f3 hb0 hb hi hi0 hBs hl hsz0
  refine calls_of_leave Tryz.func127 rfl ?_
  simp only [Tryz.ntmps127, List.size_toArray, List.length_cons, List.length_nil, Nat.reduceAdd, Nat.reduceSub, Array.replicate_succ, Array.replicate_zero, List.push_toArray, List.append_toArray, List.nil_append, List.cons_append]
  go_wp2_with fail
  refine (wpIn_wide (n := 5)).1 ?_
  refine wpIn_rangeFunc_goes rfl (by omega) (gf := 118) (lb := #[.pointer (some ⟨Bs, 0, none⟩)]) rfl trivial (enters_of Tryz.func118 (by kernel_rfl) rfl)
    hgo (fun k p hp => by have h := HSZ.out; have hp' : p.block = lb := hp; omega) (Below.refl _ _) (fun _ => rfl)
    (fun k W => RowZ w w.heap.size (w.heap.size + 1) (zs.take k) W)
    (fun c k W => False)
    (fun s X Y row hs hg hr => hs.kept hg (by have := HSZ.out; omega) hr)
    (fun c s X Y row hs hg hr => hs.elim)
    HI0.out ?round ?done ?stop
  case round =>
    intro l k W hk _
    simp only [venc14]
    gi_wp2
    refine ⟨trivial, ?_⟩
    intro Wb hm
    obtain ⟨A5, c5, hb5, hown5⟩ := hm.row
    have hlm : (zs.take k).length = k := by rw [List.length_take, HL.out]; omega
    rw [hlm] at hb5 hown5
    have c1 := hb5.cell 0
    have f1 := hb5.frozen 0
    have HM := Lib.hid hm
    have HB5 := Lib.hid hb5
    have HO5 := Lib.hid hown5
    have HBS := hm.bsz
    have HLM := Lib.hid hlm
    have HTK : Hid (zs.take (k + 1) = zs.take k ++ [gt14 zs k]) := Lib.hid (take_gt14 (by rw [HL.out]; exact hk))
    obtain ⟨x, hx⟩ : ∃ x, gt14 zs k = x := ⟨_, rfl⟩
    rw [hx] at HTK ⊢
    clear hm hb5 hown5 hlm hx
    gi_wp2_with (gi_at_builtin; refine wpListIn_append_11 _ rfl (.tmp 8) (.tmp 10) 26 rfl (w.heap.size + 1) 3 Tryz.underlying26 (.int .i64 0) 8 info_int11 rfl (.slice A5 k c5) k _ rfl (own7_keep HO5.out (b1' _ _)) _ (.int .i64 x) rfl ((Blk.new _ _ _).cell 0) rfl (by omega) (by omega) (by simp; omega) ?_)
    intro A6 c6 W6 hc6 h6 hg6
    obtain ⟨hn1, hn2, hn3, hn4⟩ := HM.out.next (by omega) (by omega) HLM.out HB5.out HO5.out hg6 h6.out
    have c6' := hn2.cell 0
    have f6' := hn2.frozen 0
    have HN1 := Lib.hid hn1
    have HN3 := Lib.hid hn3
    have HSM : Hid (Same (vkeep14 lb k) Wb W6) := Lib.hid (Same.of_below hn4 (fun p hp => by have hp' : p.block = lb := hp; omega))
    clear hn1 hn2 hn3 hn4 h6 hg6
    gi_wp2_with fail
    refine ⟨(HN3.out.trans (KeepsOthers.setCell _ _ _)).from _, HSM.out.trans (Same.setCell (fun p hp e => ?_) _), ?_⟩
    · have hp' : p.block = lb := hp
      simp only at e
      omega
    · show RowZ w _ _ (zs.take (k + 1)) _
      rw [HTK.out]
      exact HN1.out
  case done =>
    rintro D W hD hm hK
    obtain ⟨A5, c5, hb5, hown5⟩ := hm.row
    have hlm : (zs.take N).length = N := by rw [List.length_take, HL.out]; omega
    have htk : zs.take N = zs := by rw [← HL.out, List.take_length]
    rw [hlm, htk] at hown5
    rw [hlm] at hb5
    have c1 := hb5.cell 0
    have HB := Lib.hid (mark_below hm.below hK (by have := HSZ.out; omega))
    have HO := Lib.hid (own11_kept hown5 (grownBy_putObj' _ D (.deferred none)) (fun r e => by cases e; exact ⟨_, hK, rfl⟩))
    have HK := Lib.hid hK
    clear hm hK hb5 hown5 hlm htk
    go_wp2_with fail
    rw [HP.out]
    exact leave_mark (v := .slice A5 N c5) HK.out (by simp [results, Tryz.results127, go_sem]) ⟨A5, c5, rfl, own7_base HO.out (by omega), HB.out⟩
  case stop =>
    rintro D c k W hD hk h hK
    exact h.elim
end Go.Proofs.YtfoellhoaflofaaGreat
namespace Go.Proofs.YtfoellhoaflofaaGreat
open Go.RowKit Go.Shelf Go.Sort
set_option maxRecDepth 100000
theorem fl14_ints (xs : List Int) : fl14 clI xs = xs.map (Value.int .i64) := by
  induction xs with
  | nil => rfl
  | cons x r ih =>
    have : fl14 clI (x :: r) = clI x ++ fl14 clI r := by simp [fl14]
    rw [this, ih]
    rfl
set_option maxHeartbeats 1000000 in
theorem collect14 (Bs lb N c : Nat) (A : Option Addr) (zs : List Int) (w : World) (hl : zs.length = N) (hi : Zq14 w lb A zs) (hlb : lb < w.heap.size) (hN : N ≤ 100000) (hb : w.cell? ⟨Bs, 0, none⟩ = some (.slice A N c)) :
    Calls Tryz.prog 116 #[.func (.func 118) #[] #[.pointer (some ⟨Bs, 0, none⟩)]] w (RetZ w zs) := by
  have HA := Lib.hid (appendSeq14 Bs lb N c A zs w hl hi hlb hN hb)
  clear hl hi hlb hb
  go_enter Tryz.func116, Tryz.ntmps116
  go_wp2_with fail
  refine HA.out.mono ?_
  rintro e w2 ⟨A2, c2, rfl, ho, hb2⟩
  have HO := Lib.hid ho
  have HB := Lib.hid hb2
  clear HA ho hb2
  go_wp2_with fail
  go_ret
  exact ⟨A2, c2, rfl, HO.out, HB.out⟩
/-- Sorted. -/
def srt14 (zs : List Int) : List Int := zs.mergeSort fun x y => decide (x ≤ y)
theorem srt14_len (zs : List Int) : (srt14 zs).length = zs.length := by simp [srt14]
theorem sort14 {w1 w : World} {base : Nat} {A : Option Addr} {N c : Nat} {zs : List Int} (hl : zs.length = N) (hN : N ≤ 100000) (ho : w.ownsRow base 3 1 (.slice A N c) N (fl14 clI zs)) :
    Calls Tryz.prog 117 #[.slice A N c] w fun e w' => e = .returned (.tuple #[]) ∧ Lq clI w' w'.heap.size A (srt14 zs) ∧ Below base w w' := by
  by_cases hz : zs = []
  · subst hz
    obtain rfl : N = 0 := by simpa using hl.symm
    have h : Calls Tryz.prog 117 #[.slice A 0 c] w fun e w' => e = .returned (.tuple #[]) ∧ w' = w := Any.slices_Sort_int_none Tryz.laysNm189 A c w
    refine h.mono ?_
    rintro e w' ⟨rfl, rfl⟩
    rw [show srt14 [] = [] by simp [srt14]]
    exact ⟨rfl, Lq.nil _ _ _ _, ⟨rfl, rfl, rfl, Nat.le_refl _, fun _ _ => rfl⟩⟩
  · have hpos : 0 < N := by rw [← hl]; exact List.length_pos_iff.2 hz
    rcases ho.2 with ⟨_, h0⟩ | ⟨g, cap, cur, hv, hg, hh, hnc, hcm, hcs, htk⟩
    · omega
    · injection hv with hA _ hc
      subst hA hc
      rw [Nat.mul_one] at htk
      have hh1 := holds_of_blockI (ss := zs) hh (by rw [hl, htk, fl14_ints])
      have h : Calls Tryz.prog 117 #[.slice (some ⟨g, 0, none⟩) zs.length c] w fun e w' => e = .returned (.tuple #[]) ∧ ∃ n os, w' = grow (putRow (Value.int .i64) (Sort.ahead w n) g 0 (zs.mergeSort fun x y => decide (x ≤ y)).toArray) os :=
        Any.slices_Sort_int Tryz.laysNm189 g 0 c zs w hh1 (Array.getElem?_eq_some_iff.1 hh).1 (by omega)
      rw [hl] at h
      refine h.mono ?_
      rintro e w' ⟨rfl, n, os, rfl⟩
      have hgr : w.grownBy (grow (putRow (Value.int .i64) (Sort.ahead w n) g 0 (zs.mergeSort fun x y => decide (x ≤ y)).toArray) os) (some g) := grownBy_sortedI _
      have hs := ownsRow_sortedI (n := n) (os := os) (ss := zs) (ts := srt14 zs) (srt14_len zs) hg hh (by omega) hcm hcs
      rw [← fl14_ints, hl] at hs
      exact ⟨rfl, Lq.of_own (by omega) hs, ⟨hgr.os, hgr.tape, hgr.output, hgr.size, fun k hk => hgr.block k (by have := (Array.getElem?_eq_some_iff.1 hh).1; omega) (fun e => by injection e with e; omega)⟩⟩
set_option maxHeartbeats 1000000 in
theorem sorted14 (Bs lb N c : Nat) (A : Option Addr) (zs : List Int) (w : World) (hl : zs.length = N) (hi : Zq14 w lb A zs) (hlb : lb < w.heap.size) (hN : N ≤ 100000) (hb : w.cell? ⟨Bs, 0, none⟩ = some (.slice A N c)) :
    Calls Tryz.prog 95 #[.func (.func 118) #[] #[.pointer (some ⟨Bs, 0, none⟩)]] w fun e w' => ∃ A2 c2, e = .returned (.slice A2 N c2) ∧ Lq clI w' w'.heap.size A2 (srt14 zs) ∧ Below w.heap.size w w' := by
  have HC := Lib.hid (collect14 Bs lb N c A zs w hl hi hlb hN hb)
  have HL := Lib.hid hl
  clear hl hi hlb hb
  go_enter Tryz.func95, Tryz.ntmps95
  go_wp2_with fail
  refine HC.out.mono ?_
  rintro e w2 ⟨A2, c2, rfl, ho, hb2⟩
  rw [HL.out] at ho ⊢
  have HS := Lib.hid (sort14 (w1 := w) HL.out hN ho)
  have HB := Lib.hid hb2
  clear HC ho hb2
  go_wp2_with fail
  refine HS.out.mono ?_
  rintro e w3 ⟨rfl, hq, hb3⟩
  have HQ := Lib.hid hq
  have HB3 := Lib.hid (HB.out.trans hb3)
  clear HS hq hb3
  go_wp2_with fail
  go_ret
  exact ⟨A2, c2, rfl, HQ.out, HB3.out⟩
instance (S : Sv14) (i : Nat) (t : Th14) : Decidable (Queues14 S i t) := by unfold Queues14; infer_instance
/-- Who ought to stand in the Queue, of the first k. -/
def want14 (S : Sv14) : Nat → List Int
  | 0 => []
  | k + 1 => want14 S k ++ if Queues14 S k (gt14 S.H k) then [(k : Int)] else []
theorem want14_len (S : Sv14) (k : Nat) : (want14 S k).length ≤ k := by
  induction k with
  | zero => exact Nat.le_refl _
  | succ k ih => rw [want14, List.length_append]; split <;> simp <;> omega
/-- Is a thread Calling one that is Listening? -/
def Heard14 (S : Sv14) (t : Th14) : Prop := t.s = 4 ∧ (at14 usH S.H t.f).s = 5
def Queue14 (S : Sv14) : Prop := S.Q.length ≤ 32 ∧ (∀ j, j < S.H.length → Queues14 S j (gt14 S.H j) → ¬ Heard14 S (gt14 S.H j)) ∧ srt14 S.Q = want14 S S.H.length
/-- Between two rounds: the row of those so far. -/
structure Qr14 (w : World) (S : Sv14) (A0 A1 A2 A3 A4 : Option Addr) (n0 n1 n2 n3 n4 c0 c1 c2 c3 c4 : Nat) (sq : Int) (A : Option Addr) (m c : Nat) (l : List Int) (W : World) : Prop where
  b : Bx14 w S A0 A1 A2 A3 A4 n0 n1 n2 n3 n4 c0 c1 c2 c3 c4 sq W
  o : W.ownsRow (w.heap.size + 1) 3 1 (.slice A m c) m (fl14 clI l)
  l : l.length = m
theorem Qr14.step {w : World} {S : Sv14} {A0 A1 A2 A3 A4 : Option Addr} {n0 n1 n2 n3 n4 c0 c1 c2 c3 c4 : Nat} {sq : Int} {A : Option Addr} {m c : Nat} {l : List Int} {W W' : World} (h : Qr14 w S A0 A1 A2 A3 A4 n0 n1 n2 n3 n4 c0 c1 c2 c3 c4 sq A m c l W) (hb : Below W.heap.size W W') : Qr14 w S A0 A1 A2 A3 A4 n0 n1 n2 n3 n4 c0 c1 c2 c3 c4 sq A m c l W' :=
  ⟨h.b.step hb, own12_keep2 h.o hb, h.l⟩
theorem Qr14.congr {w : World} {S : Sv14} {A0 A1 A2 A3 A4 : Option Addr} {n0 n1 n2 n3 n4 c0 c1 c2 c3 c4 : Nat} {sq : Int} {A : Option Addr} {m c : Nat} {l l2 : List Int} {W : World} (h : Qr14 w S A0 A1 A2 A3 A4 n0 n1 n2 n3 n4 c0 c1 c2 c3 c4 sq A m c l W) (e : l = l2) : Qr14 w S A0 A1 A2 A3 A4 n0 n1 n2 n3 n4 c0 c1 c2 c3 c4 sq A m c l2 W := e ▸ h
/-- A number is appended. -/
theorem Qr14.push {w : World} {S : Sv14} {A0 A1 A2 A3 A4 : Option Addr} {n0 n1 n2 n3 n4 c0 c1 c2 c3 c4 : Nat} {sq : Int} {A : Option Addr} {m c : Nat} {l : List Int} {W : World} (hs : SA14 w S A0 A1 A2 A3 A4 n0 n1 n2 n3 n4 c0 c1 c2 c3 c4 sq) (h : Qr14 w S A0 A1 A2 A3 A4 n0 n1 n2 n3 n4 c0 c1 c2 c3 c4 sq A m c l W) (x : Int) (hm : m ≤ 2000) :
    ∃ Az cz W2, (Builtin.append_ #[26, 26] 26 #[.slice A m c, .slice (some ⟨W.heap.size, 0, none⟩) 1 1]).run Tryz.prog (W.alloc (.cells #[.int .i64 x] 3)) = .ok (.slice Az (m + 1) cz) W2 ∧ Qr14 w S A0 A1 A2 A3 A4 n0 n1 n2 n3 n4 c0 c1 c2 c3 c4 sq Az (m + 1) cz (l ++ [x]) W2 := by
  have hbz := b1' W (.cells #[.int .i64 x] 3)
  have hkz := Blk.new W 3 #[.int .i64 x]
  have h1 := h.step hbz
  have hsy : (W.alloc (.cells #[.int .i64 x] 3)).heap.size = W.heap.size + 1 := by simp
  obtain ⟨Y, hY⟩ : ∃ Y, W.alloc (.cells #[.int .i64 x] 3) = Y := ⟨_, rfl⟩
  rw [hY] at hbz hkz h1 hsy ⊢
  have hrv : Rv Y Y.heap.size (some ⟨W.heap.size, 0, none⟩) [.int .i64 x] := fun _ => ⟨W.heap.size, 0, rfl, by omega, fun j v hj => by rw [Nat.zero_add, hkz.cell]; simpa using hj⟩
  have hxl := h1.b.x.lt
  obtain ⟨Az, cz, W2, hrun, hown, hg⟩ := run_append_14 (P := Tryz.prog) Y (w.heap.size + 1) 26 26 3 _ 1 8 Tryz.underlying26 info14I rfl (by omega) (by omega) _ m _ h1.o Y.heap.size (some ⟨W.heap.size, 0, none⟩) [.int .i64 x] 1 1 rfl hrv (by simp [Value.oneCell']) (by omega) (by omega)
  have hB : Below w.heap.size w W2 := h1.b.b.grown hg h1.b.b.size (fun r hr => by have := (h1.o.lt r hr).1; omega)
  refine ⟨Az, cz, W2, hrun, ⟨hB, h1.b.x.grown hg (fun e => by have := (h1.o.lt _ e.symm).1; omega), hs.step hB⟩, ?_, by simp [h.l]⟩
  rw [fl14_append]
  exact hown
set_option maxHeartbeats 3000000 in
theorem fineQueue14 (v : Value) (S : Sv14) (b : Bool) (w : World) (h : St14 w v S) (hbt : b = true ↔ Queue14 S) :
    Calls Tryz.prog 46 #[v] w fun e w' => e = .returned (.bool b) ∧ Below w.heap.size w w' := by
  obtain ⟨A0, A1, A2, A3, A4, n0, n1, n2, n3, n4, c0, c1, c2, c3, c4, sq, rfl, hs⟩ := h
  have HX0 : Hid (Qr14 w S A0 A1 A2 A3 A4 n0 n1 n2 n3 n4 c0 c1 c2 c3 c4 sq none 0 0 (want14 S 0) (w.alloc (.cells #[.slice A0 n0 c0, .slice A1 n1 c1, .slice A2 n2 c2, .slice A3 n3 c3, .slice A4 n4 c4, .int .i64 sq] 28))) := Lib.hid ⟨Bx14.new hs, World.ownsRow_nil _ _ _ _, rfl⟩
  have HS := Lib.hid hs
  have HBT := Lib.hid hbt
  have hnb := hs.m2
  have hnq := hs.m4
  have HLQ := Lib.hid hs.l4
  have HLH := Lib.hid hs.l2
  have t4 := HX0.out.b.x.cell 4
  clear hs hbt
  by_cases hq32 : n4 ≤ 32
  case neg =>
    obtain rfl : b = false := bool14_of HBT.out (fun h => by have h1 := h.1; rw [HLQ.out] at h1; exact hq32 h1)
    have h1 : (32 : Int) < (n4 : Int) := by omega
    go_enter Tryz.func46, Tryz.ntmps46
    go_wp2_with fail
    go_ret
    exact ⟨rfl, HX0.out.b.b⟩
  have h32 : ¬ (32 : Int) < (n4 : Int) := by omega
  have t2 := HX0.out.b.x.cell 2
  go_enter Tryz.func46, Tryz.ntmps46
  go_wp2_with fail
  clear t4 t2
  go_loopw [3, 15] (fun v i wr => ∃ (k : Nat) (A : Option Addr) (m c : Nat), v = .slice A m c ∧ i = .int .i64 (k : Int) ∧ k ≤ n2 ∧ Hid (∀ j, j < k → Queues14 S j (gt14 S.H j) → ¬ Heard14 S (gt14 S.H j)) ∧ Hid (Qr14 w S A0 A1 A2 A3 A4 n0 n1 n2 n3 n4 c0 c1 c2 c3 c4 sq A m c (want14 S k) wr)) (fun _ i _ => n2 - (intOf i).toNat)
  case atStart => exact ⟨0, none, 0, 0, rfl, rfl, by omega, Lib.hid (fun j h => by omega), HX0⟩
  case round =>
    obtain ⟨k, A, m, c, rfl, rfl, hk, HN, HW⟩ := hrel
    have hmk : m ≤ k := by rw [← HW.out.l]; exact want14_len S k
    by_cases hkn : k < n2
    · skip
      obtain ⟨a, of, hA, hab, hq⟩ := Lq.at_ len14H (by omega) HW.out.b.s.r2 (show k < S.H.length by rw [HW.out.b.s.l2]; omega)
      have HAE := Lib.hid hA
      obtain ⟨x, hx⟩ : ∃ x, gt14 S.H k = x := ⟨_, rfl⟩
      rw [hx] at hq
      obtain ⟨xz, xf, xc, xq, xu⟩ := x
      have e0 : wr.cell? ⟨a, of + k * 5, none⟩ = some (.int .i64 xz) := hq 0 _ rfl
      have e1 : wr.cell? ⟨a, of + k * 5 + 1, none⟩ = some (.int .i64 xf) := hq 1 _ rfl
      have e2 : wr.cell? ⟨a, of + k * 5 + 2, none⟩ = some (.int .i64 xc) := hq 2 _ rfl
      have e3 : wr.cell? ⟨a, of + k * 5 + 3, none⟩ = some (.int .i64 xq) := hq 3 _ rfl
      have e4 : wr.cell? ⟨a, of + k * 5 + 4, none⟩ = some (.int .i64 xu) := hq 4 _ rfl
      have i0 : (0 : Int) ≤ (k : Int) := by omega
      have i1 : (k : Int) < (n2 : Int) := by omega
      have HV := Lib.hid (Qr14.step HW.out (b1' wr (.cells #[.int .i64 xz, .int .i64 xf, .int .i64 xc, .int .i64 xq, .int .i64 xu] 45)))
      have hv := Blk.new wr 45 #[.int .i64 xz, .int .i64 xf, .int .i64 xc, .int .i64 xq, .int .i64 xu]
      have v0 := hv.cell 0
      have v1 := hv.cell 1
      have v2 := hv.cell 2
      have v3 := hv.cell 3
      have v4 := hv.cell 4
      have HVB := Lib.hid hv
      have HXE := Lib.hid hx
      have p0 := HV.out.b.x.cell 0
      have p1 := HV.out.b.x.cell 1
      have p2 := HV.out.b.x.cell 2
      have p3 := HV.out.b.x.cell 3
      have p4 := HV.out.b.x.cell 4
      have p5 := HV.out.b.x.cell 5
      obtain ⟨X, hX⟩ : ∃ X, wr.alloc (.cells #[.int .i64 xz, .int .i64 xf, .int .i64 xc, .int .i64 xq, .int .i64 xu] 45) = X := ⟨_, rfl⟩
      rw [hX] at HV HVB v0 v1 v2 v3 v4 p0 p1 p2 p3 p4 p5
      clear hv hq hx hab
      subst hA
      obtain ⟨bq, hbq⟩ := ex_bool14 (Queues14 S k ⟨xz, xf, xc, xq, xu⟩)
      have HBQ := Lib.hid hbq
      have HCQ := Lib.hid (queues14 _ S k xz xf xc xq xu bq X HV.out.b.st (by rw [HLH.out]; exact hkn) HXE.out hbq)
      clear hbq
      cases bq with
      | false =>
        have hnq2 : ¬ Queues14 S k ⟨xz, xf, xc, xq, xu⟩ := fun h => by have := HBQ.out.2 h; cases this
        have HN2 : Hid (∀ j, j < k + 1 → Queues14 S j (gt14 S.H j) → ¬ Heard14 S (gt14 S.H j)) := Lib.hid (fun j hj hq => by
          rcases (show j < k ∨ j = k by omega) with h5 | h5
          · exact HN.out j h5 hq
          · rw [h5, HXE.out] at hq
            exact absurd hq hnq2)
        have HE : Hid (want14 S (k + 1) = want14 S k) := Lib.hid (by rw [want14, HXE.out, if_neg hnq2, List.append_nil])
        clear hnq2
        go_wp2_with fail
        refine HCQ.out.mono ?_
        rintro e u ⟨rfl, hbu⟩
        have HU := Lib.hid ((HV.out.step hbu).congr HE.out.symm)
        clear HCQ hbu
        go_wp2_with fail
        go_roundw
        case rel => exact ⟨k + 1, A, m, c, rfl, by go_num, by omega, HN2, HU⟩
        case measure => simp [intOf]; omega
      | true =>
        have HQY := Lib.hid (HBQ.out.1 rfl)
        have HE : Hid (want14 S (k + 1) = want14 S k ++ [(k : Int)]) := Lib.hid (by rw [want14, HXE.out, if_pos HQY.out])
        obtain ⟨y, hy⟩ : ∃ y, at14 usH S.H xf = y := ⟨_, rfl⟩
        obtain ⟨yz, yf, yc, yq, yu⟩ := y
        have HHE : Hid (Heard14 S ⟨xz, xf, xc, xq, xu⟩ ↔ xz = 4 ∧ yz = 5) := Lib.hid (by simp [Heard14, hy])
        have HTH := Lib.hid (fun W (h : Below X.heap.size X W) => thread14 _ S xf yz yf yc yq yu _ W (HV.out.step h).b.st rfl hy)
        clear hy
        go_wp2_with fail
        refine HCQ.out.mono ?_
        rintro e u0 ⟨rfl, hbu0⟩
        have HV0 := Lib.hid (HV.out.step hbu0)
        have HVB0 := Lib.hid (HVB.out.below hbu0 HVB.out.lt)
        have HB0 := Lib.hid hbu0
        have w0_ := HVB0.out.cell 0
        have w1_ := HVB0.out.cell 1
        have w2_ := HVB0.out.cell 2
        have w3_ := HVB0.out.cell 3
        have w4_ := HVB0.out.cell 4
        have z0_ := HV0.out.b.x.cell 0
        have z1_ := HV0.out.b.x.cell 1
        have z2_ := HV0.out.b.x.cell 2
        have z3_ := HV0.out.b.x.cell 3
        have z4_ := HV0.out.b.x.cell 4
        have z5_ := HV0.out.b.x.cell 5
        clear HCQ hbu0
        go_wp2_with fail
        refine (HTH.out _ HB0.out).mono ?_
        rintro e u ⟨rfl, hbu⟩
        have HU := Lib.hid (Qr14.step (HV0.out.step hbu) (b1' u (.cells #[.int .i64 yz, .int .i64 yf, .int .i64 yc, .int .i64 yq, .int .i64 yu] 45)))
        have hky := Blk.new u 45 #[.int .i64 yz, .int .i64 yf, .int .i64 yc, .int .i64 yq, .int .i64 yu]
        have g0 := hky.cell 0
        have hvx := (HVB0.out.below hbu HVB0.out.lt).alloc (.cells #[.int .i64 yz, .int .i64 yf, .int .i64 yc, .int .i64 yq, .int .i64 yu] 45)
        have r0 := hvx.cell 0
        obtain ⟨Z, hZ⟩ : ∃ Z, u.alloc (.cells #[.int .i64 yz, .int .i64 yf, .int .i64 yc, .int .i64 yq, .int .i64 yu] 45) = Z := ⟨_, rfl⟩
        rw [hZ] at HU g0 r0
        clear HTH hbu hky hvx
        have hN2 : ¬ (xz = 4 ∧ yz = 5) → Hid (∀ j, j < k + 1 → Queues14 S j (gt14 S.H j) → ¬ Heard14 S (gt14 S.H j)) := fun hne => Lib.hid (fun j hj hq => by
          rcases (show j < k ∨ j = k by omega) with h5 | h5
          · exact HN.out j h5 hq
          · rw [h5, HXE.out]
            exact fun h => hne (HHE.out.1 h))
        by_cases z4 : xz = 4
        · by_cases y5 : yz = 5
          · have HF : Hid (b = false) := Lib.hid (bool14_of HBT.out (fun h => h.2.1 k (by rw [HLH.out]; exact hkn) (by rw [HXE.out]; exact HQY.out) (by rw [HXE.out]; exact HHE.out.2 ⟨z4, y5⟩)))
            rw [z4] at r0
            rw [y5] at g0
            clear hN2 z4 y5
            go_wp2_with fail
            go_ret
            exact ⟨by rw [HF.out]; rfl, HU.out.b.b⟩
          · have HN2 := hN2 (fun h => y5 h.2)
            rw [z4] at r0
            clear hN2
            obtain ⟨Az, cz, W2, hrun, har⟩ := HU.out.push HS.out (k : Int) (by omega)
            have HRUN := Lib.hid hrun
            have HAR := Lib.hid (har.congr HE.out.symm)
            clear hrun har
            go_wp2_with (at_builtin; go_loud (refine wpList_append_14 _ rfl (.tmp 39) (.tmp 41) 26 rfl _ _ _ _ rfl rfl HRUN.out ?_))
            go_roundw
            case rel => exact ⟨k + 1, Az, m + 1, cz, rfl, by go_num, by omega, HN2, HAR⟩
            case measure => simp [intOf]; omega
        · have HN2 := hN2 (fun h => z4 h.1)
          clear hN2
          obtain ⟨Az, cz, W2, hrun, har⟩ := HU.out.push HS.out (k : Int) (by omega)
          have HRUN := Lib.hid hrun
          have HAR := Lib.hid (har.congr HE.out.symm)
          clear hrun har
          go_wp2_with (at_builtin; go_loud (refine wpList_append_14 _ rfl (.tmp 39) (.tmp 41) 26 rfl _ _ _ _ rfl rfl HRUN.out ?_))
          go_roundw
          case rel => exact ⟨k + 1, Az, m + 1, cz, rfl, by go_num, by omega, HN2, HAR⟩
          case measure => simp [intOf]; omega
    · obtain rfl : k = n2 := by omega
      have h1 : ¬ (k : Int) < (k : Int) := by omega
      have t4 := HW.out.b.x.cell 4
      have HVL := Lib.hid (values14 A4 n4 c4 wr)
      clear hmk hkn
      go_wp2_with fail
      refine HVL.out.mono ?_
      rintro e u ⟨rfl, hu⟩
      have hbu : Below wr.heap.size wr u := by rw [hu]; exact b1' wr _
      have hcu : u.cell? ⟨wr.heap.size, 0, none⟩ = some (.slice A4 n4 c4) := by rw [hu]; exact (Blk.new wr _ _).cell 0
      have HW2 := Lib.hid (HW.out.step hbu)
      have hup : 0 < u.heap.size := Nat.lt_of_le_of_lt (Nat.zero_le _) HW2.out.b.x.lt
      obtain ⟨lb, hlb, hzq⟩ := zq14_of hup HW2.out.b.s.r4
      have HSR := Lib.hid (sorted14 wr.heap.size lb n4 c4 A4 S.Q u HLQ.out hzq hlb (by omega) hcu)
      clear HVL hu hbu hcu hup hlb hzq
      go_wp2_with fail
      refine HSR.out.mono ?_
      rintro e u2 ⟨As, cs, rfl, hqs, hb2⟩
      have HW3 := Lib.hid (HW2.out.step hb2)
      obtain ⟨be, hbe⟩ := ex_bool14 (srt14 S.Q = want14 S k)
      have HEQ := Lib.hid (equal14I As A (srt14 S.Q) (want14 S k) n4 cs m c u2 (by rw [srt14_len, HLQ.out]) hqs (by omega) HW3.out.l (Lq.of_own (by omega) HW3.out.o) (by have := HW3.out.l; have := want14_len S k; omega) be hbe)
      have HBE : Hid (b = be) := Lib.hid (by
        rw [Bool.eq_iff_iff, HBT.out, hbe]
        constructor
        · intro h
          have h2 := h.2.2
          rwa [HLH.out] at h2
        · intro h
          exact ⟨by rw [HLQ.out]; exact hq32, fun j hj => HN.out j (by rw [HLH.out] at hj; exact hj), by rw [HLH.out]; exact h⟩)
      clear HSR hqs hb2 hbe
      go_wp2_with fail
      refine HEQ.out.mono ?_
      rintro e u3 ⟨rfl, hb3⟩
      have HW4 := Lib.hid (HW3.out.step hb3)
      clear HEQ hb3
      go_wp2_with fail
      go_ret
      exact ⟨by rw [HBE.out]; rfl, HW4.out.b.b⟩
end Go.Proofs.YtfoellhoaflofaaGreat
namespace Go.Proofs.YtfoellhoaflofaaGreat
open Go.RowKit
section
variable {P : Program} {md : Region.Mode} {ops : Array Oper} {Q : Exit → Act → World → Prop} {S : World → Prop} {oi : Oper} {fuel : Nat} {listed : Array Bool} {a : Act} {w : World}
theorem sk (i : Nat) (h : wpAnyH P md ops Q S fuel (listed.setIfInBounds i true) (a.put oi.dst undef) w) (hi : ops.toList[i]? = some oi := by rfl)
    (hs : Region.noSelect ops = true := by kernel_rfl) (hf : Region.free md ops listed i = true := by kernel_rfl) (hr : (Region.ready md ops listed).contains i = true := by kernel_rfl)
    (hQ : ∀ c a w, Q (.panic c) (a.put oi.dst undef) w → Q (.panic c) a w := by exact fun _ _ _ h => h) (hw : Region.wanted oi (yielded ops a.tmps) = false := by rfl) (hS : S w := by assumption) : wpAnyH P md ops Q S (fuel + 1) listed a w :=
  take_skip (op_of hi) hs hf hr hQ hw hS h
theorem skp (hP : ∀ c a d v w, Q (.panic c) (Act.put a (some d) v) w → Q (.panic c) a w) (i : Nat) {d : Nat} (h : wpAnyH P md ops Q S fuel (listed.setIfInBounds i true) (a.put oi.dst undef) w) (hi : ops.toList[i]? = some oi := by rfl)
    (hs : Region.noSelect ops = true := by kernel_rfl) (hf : Region.free md ops listed i = true := by kernel_rfl) (hr : (Region.ready md ops listed).contains i = true := by kernel_rfl)
    (hd : oi.dst = some d := by rfl) (hw : Region.wanted oi (yielded ops a.tmps) = false := by rfl) (hS : S w := by assumption) : wpAnyH P md ops Q S (fuel + 1) listed a w :=
  take_skip (op_of hi) hs hf hr (by rw [hd]; exact fun _ _ _ => hP _ _ _ _ _) hw hS h
theorem tk (i : Nat) {v : Value} (hy : ∀ w, S w → (execOp a.eval oi).run P w = .ok (.value v) w) (h : wpAnyH P md ops Q S fuel (listed.setIfInBounds i true) (a.put oi.dst v) w) (hi : ops.toList[i]? = some oi := by rfl)
    (hs : Region.noSelect ops = true := by kernel_rfl) (hf : Region.free md ops listed i = true := by kernel_rfl) (hr : (Region.ready md ops listed).contains i = true := by kernel_rfl)
    (hQ : ∀ c a w, Q (.panic c) (a.put oi.dst v) w → Q (.panic c) a w := by exact fun _ _ _ h => h) (hw : Region.wanted oi (yielded ops a.tmps) = true := by rfl) (hS : S w := by assumption) : wpAnyH P md ops Q S (fuel + 1) listed a w :=
  wpAnyH_take (op_of hi) hs hf hr hQ (Or.inl ⟨hw, hy⟩) hS h
theorem tkp (hP : ∀ c a d v w, Q (.panic c) (Act.put a (some d) v) w → Q (.panic c) a w) (i : Nat) {v : Value} {d : Nat} (hy : ∀ w, S w → (execOp a.eval oi).run P w = .ok (.value v) w) (h : wpAnyH P md ops Q S fuel (listed.setIfInBounds i true) (a.put oi.dst v) w) (hi : ops.toList[i]? = some oi := by rfl)
    (hs : Region.noSelect ops = true := by kernel_rfl) (hf : Region.free md ops listed i = true := by kernel_rfl) (hr : (Region.ready md ops listed).contains i = true := by kernel_rfl)
    (hd : oi.dst = some d := by rfl) (hw : Region.wanted oi (yielded ops a.tmps) = true := by rfl) (hS : S w := by assumption) : wpAnyH P md ops Q S (fuel + 1) listed a w :=
  wpAnyH_take (op_of hi) hs hf hr (by rw [hd]; exact fun _ _ _ => hP _ _ _ _ _) (Or.inl ⟨hw, hy⟩) hS h
theorem rdy (i : Nat) (hk : ∀ K' : Act → World → Prop, Shut (∀ a w, S w → (S w → wpAnyH P md ops Q S fuel (listed.setIfInBounds i true) a w) → K' a w) → if Region.wanted oi (yielded ops a.tmps) = true then Oper.wp P oi a w K' Q else K' (a.put oi.dst undef) w)
    (hi : ops.toList[i]? = some oi := by rfl) (hr : Region.ready md ops listed = [i] := by kernel_rfl) : wpAnyH P md ops Q S (fuel + 1) listed a w :=
  wpAnyH_ready hr (by simp) (AllReadyH.cons (op_of hi) hk AllReadyH.nil)
theorem rc {i : Nat} {rs : List Nat} (hk : ∀ K' : Act → World → Prop, Shut (∀ a w, S w → (S w → wpAnyH P md ops Q S fuel (listed.setIfInBounds i true) a w) → K' a w) → if Region.wanted oi (yielded ops a.tmps) = true then Oper.wp P oi a w K' Q else K' (a.put oi.dst undef) w)
    (hs : AllReadyH P md ops Q S fuel listed a w rs) (hi : ops.toList[i]? = some oi := by rfl) : AllReadyH P md ops Q S fuel listed a w (i :: rs) := AllReadyH.cons (op_of hi) hk hs
/-- What 'Act.put' leaves, laid out. -/
theorem pt1 {α : Type} (l : List α) (i : Nat) (a : α) : l.toArray.setIfInBounds i a = (l.set i a).toArray := List.setIfInBounds_toArray ..
theorem pt2 {α : Type} (x : α) (l : List α) (a : α) : (x :: l).set 0 a = a :: l := rfl
theorem pt3 {α : Type} (x : α) (l : List α) (i : Nat) (a : α) : (x :: l).set (i + 1) a = x :: l.set i a := rfl
theorem memo {f : Nat} {l : Array Bool} (I : Act → (Act → World → Prop) → Prop) (f1 : Nat) (l1 : Array Bool) (h1 : I a (fun a' w' => wpAnyH P md ops Q S f1 l1 a' w')) (h0 : I a (fun a' w' => wpAnyH P md ops Q S f1 l1 a' w') → wpAnyH P md ops Q S f l a w) : wpAnyH P md ops Q S f l a w := h0 h1
end
end Go.Proofs.YtfoellhoaflofaaGreat
