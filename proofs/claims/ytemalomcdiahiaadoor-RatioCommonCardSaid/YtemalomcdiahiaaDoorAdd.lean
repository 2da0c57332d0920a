/-
  The document's numbers, in digits: Add.
-/
import Derived.Test.YtemalomcdiahiaaDoorMF
import Derived.Deep.RegionHeld3
namespace Go.Proofs.YtemalomcdiahiaaDoor
open Go.RowKit

/-- Three blocks of a call: its two arguments, boxed, and its result. -/
structure Args2 (w : World) (x y : Value) (wr : World) : Prop where
  below : Below w.heap.size w wr
  one : Blk wr w.heap.size 33 #[x]
  two : Blk wr (w.heap.size + 1) 33 #[y]
  res : Blk wr (w.heap.size + 2) 33 #[.slice none 0 0]
theorem Args2.start (w : World) (x y : Value) : Args2 w x y (((w.alloc (.cells #[x] 33)).alloc (.cells #[y] 33)).alloc (.cells #[.slice none 0 0] 33)) := by
  refine ⟨(((Below.refl _ _).alloc (Nat.le_refl _) _).alloc (by simp) _).alloc (by simp; omega) _, ((Blk.new w _ _).alloc _).alloc _, ?_, ?_⟩
  · simpa using (Blk.new (w.alloc (.cells #[x] 33)) 33 #[y]).alloc (.cells #[.slice none 0 0] 33)
  · simpa using Blk.new ((w.alloc (.cells #[x] 33)).alloc (.cells #[y] 33)) 33 #[.slice none 0 0]
theorem Args2.more {w wr w1 : World} {x y : Value} (h : Args2 w x y wr) (hb : Below wr.heap.size wr w1) : Args2 w x y w1 :=
  ⟨h.below.trans (hb.mono h.below.size), h.one.below hb h.one.lt, h.two.below hb h.two.lt, h.res.below hb h.res.lt⟩
theorem Args2.grown {w wr w1 : World} {x y v : Value} {base n : Nat} {e : TypeId} {zs : List Value} (h : Args2 w x y wr) (hown : wr.ownsRow base e 1 v n zs) (hbase : w.heap.size + 3 ≤ base) (o : Obj)
    (hg : (wr.alloc o).grownBy w1 v.ownBlock) : Args2 w x y w1 := by
  have hrow : ∀ k, v.ownBlock = some k → w.heap.size + 3 ≤ k := fun k hk => by have := (hown.lt k hk).1; omega
  refine ⟨(h.below.alloc h.below.size _).grown hg (by have := h.below.size; simp; omega) (fun k hk => by have := hrow k hk; omega), ?_, ?_, ?_⟩
  · exact (h.one.alloc _).grown hg (fun e => by have := hrow _ e.symm; omega)
  · exact (h.two.alloc _).grown hg (fun e => by have := hrow _ e.symm; omega)
  · exact (h.res.alloc _).grown hg (fun e => by have := hrow _ e.symm; omega)

theorem rd_far {w wr W : World} {A : Option Addr} {xs : List Nat} {c d : Prop} (hr : Rd w w.heap.size A xs) (hb : Below w.heap.size w wr) (h : c ∧ d ∧ Below wr.heap.size wr W) : Rd W W.heap.size A xs :=
  (hr.below (hb.trans (h.2.2.mono hb.size)) (Nat.le_refl _)).more (Nat.le_trans hb.size h.2.2.size)
theorem held_more {wr W W' : World} {p q : Addr} {u v : Value} (hb : Below W.heap.size W W') (h : W.cell? p = some u ∧ W.cell? q = some v ∧ Below wr.heap.size wr W) :
    W'.cell? p = some u ∧ W'.cell? q = some v ∧ Below wr.heap.size wr W' :=
  ⟨(hb.cell (World.block_lt_of_cell? W _ h.1)).trans h.1, (hb.cell (World.block_lt_of_cell? W _ h.2.1)).trans h.2.1, h.2.2.trans (hb.mono h.2.2.size)⟩

def AddRel (xs ys : List Nat) (w : World) (x y : Value) (k ov : Nat) (v : Value) (wr : World) : Prop :=
  ∃ ds A l c, v = .slice A l c ∧ ds.length = l ∧ l = k ∧ l ≤ c ∧ wr.ownsRow (w.heap.size + 3) 3 1 v l (ints ds) ∧ Dig ds ∧ V ds + 65536 ^ k * ov = V (xs.take k) + V (ys.take k) ∧ ov ≤ 1 ∧ Args2 w x y wr

theorem sum3 (a b c : Nat) (ha : a < 65536) (hb : b < 65536) (hc : c ≤ 1) : IntKind.i64.wrap (IntKind.i64.wrap ((a : Int) + (b : Int)) + (c : Int)) = ((a + b + c : Nat) : Int) := by
  rw [IntWalk.i64_in ((a : Int) + (b : Int)) (by omega), IntWalk.i64_in _ (by omega)]
  omega

theorem add_step {xs ys ds : List Nat} {w wr w' w1 : World} {a b : Value} {l ov X : Nat} {A A' : Option Addr} {c n' c' : Nat} (hl : ds.length = l) (hown : wr.ownsRow (w.heap.size + 3) 3 1 (.slice A l c) l (ints ds))
    (hd : Dig ds) (hv : V ds + 65536 ^ l * ov = V (xs.take l) + V (ys.take l)) (hX : nth xs l + nth ys l + ov = X) (hX2 : X < 131072) (harg : Args2 w a b wr) (hb : Below wr.heap.size wr w')
    (hl1 : (ds ++ [X % 65536]).length = n') (hc1 : n' ≤ c') (hown1 : w1.ownsRow (w.heap.size + 3) 3 1 (.slice A' n' c') n' (ints (ds ++ [X % 65536])))
    (hown' : w'.ownsRow (w.heap.size + 3) 3 1 (.slice A l c) l (ints ds))
    (hg : (w'.alloc (.cells #[.int .i64 ((X % 65536 : Nat) : Int)] 3)).grownBy w1 (Value.slice A l c).ownBlock) :
    AddRel xs ys w a b (l + 1) (X / 65536) (.slice A' n' c') w1 := by
  have hn : n' = l + 1 := by rw [← hl1, ← hl]; simp
  subst hn
  refine ⟨ds ++ [X % 65536], A', _, c', rfl, hl1, rfl, hc1, hown1, hd.snoc (by omega), ?_, by omega, (harg.more hb).grown hown' (Nat.le_refl _) _ hg⟩
  rw [V_snoc, V_take_succ, V_take_succ, hl, Nat.pow_succ]
  have := Nat.div_add_mod X 65536
  generalize X / 65536 = q at *
  generalize X % 65536 = r at *
  subst this
  generalize 65536 ^ l = P at *
  have e : P * (nth xs l + nth ys l + ov) = P * (65536 * q + r) := by rw [hX]
  grind

theorem owns_any_below {w w' : World} {base : Nat} {e : TypeId} {n : Nat} {v : Value} {xs : List Value} (h : w.ownsRow base e 1 v n xs) (hb : Below w.heap.size w w') : w'.ownsRow base e 1 v n xs := by
  have hlt := h.lt
  obtain ⟨h1, h2⟩ := h
  refine ⟨h1, ?_⟩
  rcases h2 with h2 | ⟨g, cap, cur, rfl, hg, hh, r⟩
  · exact .inl h2
  · exact .inr ⟨g, cap, cur, rfl, hg, by rw [hb.block g (hlt g rfl).2]; exact hh, r⟩

theorem add_done {xs ys ds : List Nat} {w wr w1 : World} {a b v : Value} {u : Value} {l n1 n2 : Nat} (hl1 : xs.length = n1) (hl2 : ys.length = n2) (h1 : n1 ≤ l) (h2 : n2 ≤ l)
    (hv : V ds + 65536 ^ l * 0 = V (xs.take l) + V (ys.take l)) (harg : Args2 w a b wr) (hn : Num w1 wr.heap.size v (V ds)) (hb : Below wr.heap.size wr w1) :
    RetNum w (V xs + V ys) (.returned v) (w1.setCell ⟨w.heap.size + 2, 0, none⟩ u) := by
  have hs := harg.below.size
  have hr := harg.res.lt
  rw [V_take_all xs l (by omega), V_take_all ys l (by omega)] at hv
  have hv' : V ds = V xs + V ys := by simpa using hv
  rw [← hv']
  exact ⟨v, rfl, (hn.old (by simp; omega) _).more hs, (harg.more hb).below.setCell (by simp) _⟩

set_option maxHeartbeats 1600000 in
theorem add_any (A1 A2 : Option Addr) (xs ys : List Nat) (n1 c1 n2 c2 M : Nat) (w : World) (hl1 : xs.length = n1) (hl2 : ys.length = n2) (hr1 : Rd w w.heap.size A1 xs) (hr2 : Rd w w.heap.size A2 ys)
    (hd1 : Dig xs) (hd2 : Dig ys) (hn1 : n1 ≤ M) (hn2 : n2 ≤ M) (hM : M ≤ 100000) :
    Calls Tryd.prog 53 #[.agg #[.slice A1 n1 c1], .agg #[.slice A2 n2 c2]] w (RetNum w (V xs + V ys)) := by
  have HL1 := Lib.hid hl1
  have HL2 := Lib.hid hl2
  clear hl1 hl2
  go_enter Tryd.func53, Tryd.ntmps53
  go_wp2_with fail
  go_loopw [5, 6, 7] (fun v o i wr => ∃ k ov : Nat, i = .int .i64 (k : Int) ∧ o = .int .i64 (ov : Int) ∧ k ≤ M + 1 ∧ (k = M + 1 → ov = 0) ∧ AddRel xs ys w (.slice A1 n1 c1) (.slice A2 n2 c2) k ov v wr) (fun _ _ i _ => M + 1 - (intOf i).toNat)
  case atStart => exact ⟨0, 0, rfl, rfl, by omega, fun _ => rfl, [], none, 0, 0, rfl, rfl, rfl, Nat.le_refl _, World.ownsRow_nil _ _ _ _, Dig.nil, by simp [V], by omega, Args2.start _ _ _⟩
  case round =>
    obtain ⟨k, ov, rfl, rfl, hkM, hkz, ds, A, l, c, rfl, hl, rfl, hc, hown, hd, hv, hov, harg⟩ := hrel
    have HL := Lib.hid hl
    have HO := Lib.hid hown
    have HV := Lib.hid hv
    have HK := Lib.hid hkz
    have ca := harg.one.cell 0
    have cb := harg.two.cell 0
    have hx0 := hd1.nth l
    have hy0 := hd2.nth l
    clear hl hown hv hkz
    have hcases : (l < n1) ∨ (¬ l < n1 ∧ l < n2) ∨ (¬ l < n1 ∧ ¬ l < n2 ∧ 0 < ov) ∨ (¬ l < n1 ∧ ¬ l < n2 ∧ ¬ 0 < ov) := by omega
    have HM : Hid (l < n1 ∨ l < n2 ∨ 0 < ov → l ≤ M ∧ (l = M → nth xs l + nth ys l + ov < 65536)) := Lib.hid (fun h => by
      have h1 := HK.out; have h2 := HL1.out; have h3 := HL2.out
      refine ⟨by omega, fun hM => ?_⟩
      rw [nth_out (xs := xs) (by omega), nth_out (xs := ys) (by omega)]; omega)
    rcases hcases with ht | ht | ht | ht
    rotate_right
    · have hz : ov = 0 := by omega
      subst hz
      have hlM : l ≤ M + 1 := hkM
      go_wp2_with fail
      refine (cut_any A ds l c _ HL.out ((Rd.of_own HO.out)) hd (by omega) hc).mono ?_
      rintro e w1 ⟨v, rfl, hn3, hb3⟩
      obtain ⟨A3, n3, c3, rfl⟩ := hn3.shape
      have hres := (harg.more hb3).res
      have hcell := hres.cell 0
      have hfro := hres.frozen 0
      have HN := Lib.hid hn3
      clear hn3
      go_wp2_with fail
      exact bodyPost_ret (v := .agg #[.slice A3 n3 c3]) (by simp [results, Tryd.results53, go_sem, hcell, hfro]) rfl
        (add_done HL1.out HL2.out (by omega) (by omega) HV.out harg HN.out hb3)
    all_goals
      have HM2 : Hid (l ≤ M ∧ (l = M → nth xs l + nth ys l + ov < 65536)) := Lib.hid (HM.out (by omega))
      clear HM
      go_wp2_with fail
      go_region_held3 (fun w' => w'.cell? ⟨w.heap.size, 0, none⟩ = some (.slice A1 n1 c1) ∧ w'.cell? ⟨w.heap.size + 1, 0, none⟩ = some (.slice A2 n2 c2) ∧ Below wr.heap.size wr w')
        (first | exact ⟨ca, cb, (Below.refl _ _).drew⟩ | assumption)
        (first
          | (go_at_call 69; with_reducible refine (digit_any A1 xs n1 c1 l _ HL1.out (rd_far hr1 harg.below (by assumption)) (by omega)).mono ?_; rintro e w' ⟨rfl, hb'⟩; have hS := held_more hb' (by assumption))
          | (go_at_call 69; with_reducible refine (digit_any A2 ys n2 c2 l _ HL2.out (rd_far hr2 harg.below (by assumption)) (by omega)).mono ?_; rintro e w' ⟨rfl, hb'⟩; have hS := held_more hb' (by assumption)))
      have hB : Below wr.heap.size wr w' := hS.2.2
      have harg2 := harg.more hB
      have HO2 := Lib.hid (owns_any_below HO.out hB)
      rw [sum3 _ _ _ hx0 hy0 hov]
      obtain ⟨X, hX⟩ : ∃ X, nth xs l + nth ys l + ov = X := ⟨_, rfl⟩
      have hX2 : X < 131072 := by omega
      have HM3 : Hid (l = M → X < 65536) := Lib.hid (by rw [← hX]; exact HM2.out.2)
      have hlM : l ≤ M := HM2.out.1
      rw [hX]
      have HX := Lib.hid hX
      clear hX hS HM2 ca cb ht
      go_wp2_with (at_builtin; go_loud (refine wpList_append_ints _ rfl (.tmp 36) (.tmp 39) 31 rfl (w.heap.size + 3) 3 Tryd.underlying31 info_int (.slice A l c) ds rfl (by rw [HL.out]; exact HO2.out.alloc _) (w'.heap.size + 1) (some ⟨w'.heap.size, 0, none⟩) 1 [X % 65536] _ rfl rfl (Rd.one _ _ _) (by have := HL.out; simp; omega) (by have := harg2.res.lt; simp; omega) ?_); intro A' n' c' w1 hl1 hc1 hown1 hg1)
      go_roundw
      case rel => exact ⟨l + 1, X / 65536, by go_num, by go_num, by omega, fun h => by have := HM3.out (by omega); omega, add_step HL.out HO.out hd HV.out HX.out hX2 harg hB hl1.out hc1 hown1.out HO2.out hg1⟩
      case measure => simp [intOf]; omega
end Go.Proofs.YtemalomcdiahiaaDoor
