/-
  The document's numbers, in digits: Sub.
-/
import Derived.Test.YtemalomcdiahiaaDoorAdd
namespace Go.Proofs.YtemalomcdiahiaaDoor
open Go.RowKit

def SubRel (xs ys : List Nat) (w : World) (x y : Value) (k un : Nat) (v : Value) (wr : World) : Prop :=
  ∃ ds A l c, v = .slice A l c ∧ ds.length = l ∧ l = k ∧ l ≤ c ∧ wr.ownsRow (w.heap.size + 3) 3 1 v l (ints ds) ∧ Dig ds ∧ V ds + V (ys.take k) = V (xs.take k) + 65536 ^ k * un ∧ un ≤ 1 ∧ Args2 w x y wr

theorem sub_wrap (a b c X d : Nat) (ha : a < 65536) (hb : b < 65536) (hc : c ≤ 1) (h : X + b + c = a + d) (hd : d ≤ 65536) :
    IntKind.i64.wrap (IntKind.i64.wrap ((a : Int) - (b : Int)) - (c : Int)) = (X : Int) - (d : Int) := by
  rw [IntWalk.i64_in ((a : Int) - (b : Int)) (by omega), IntWalk.i64_in _ (by omega)]
  omega

theorem sub_step {xs ys ds : List Nat} {w wr w' w1 : World} {a b : Value} {l un u' X : Nat} {A A' : Option Addr} {c n' c' : Nat} (hl : ds.length = l)
    (hd : Dig ds) (hv : V ds + V (ys.take l) = V (xs.take l) + 65536 ^ l * un) (hX : X + nth ys l + un = nth xs l + 65536 * u') (hX2 : X < 65536) (hu : u' ≤ 1) (harg : Args2 w a b wr) (hb : Below wr.heap.size wr w')
    (hl1 : (ds ++ [X]).length = n') (hc1 : n' ≤ c') (hown1 : w1.ownsRow (w.heap.size + 3) 3 1 (.slice A' n' c') n' (ints (ds ++ [X])))
    (hown' : w'.ownsRow (w.heap.size + 3) 3 1 (.slice A l c) l (ints ds))
    (hg : (w'.alloc (.cells #[.int .i64 (X : Int)] 3)).grownBy w1 (Value.slice A l c).ownBlock) :
    SubRel xs ys w a b (l + 1) u' (.slice A' n' c') w1 := by
  have hn : n' = l + 1 := by rw [← hl1, ← hl]; simp
  subst hn
  refine ⟨ds ++ [X], A', _, c', rfl, hl1, rfl, hc1, hown1, hd.snoc hX2, ?_, hu, (harg.more hb).grown hown' (Nat.le_refl _) _ hg⟩
  rw [V_snoc, V_take_succ, V_take_succ, hl, Nat.pow_succ]
  generalize 65536 ^ l = P at *
  have e : P * (X + nth ys l + un) = P * (nth xs l + 65536 * u') := by rw [hX]
  grind

theorem sub_done {xs ys ds : List Nat} {w wr w1 : World} {a b v : Value} {u : Value} {l n1 un : Nat} (hl1 : xs.length = n1) (h1 : l = n1) (hdl : ds.length = l) (hx : Dig xs) (hdd : Dig ds) (hle : V ys ≤ V xs)
    (hv : V ds + V (ys.take l) = V (xs.take l) + 65536 ^ l * un) (harg : Args2 w a b wr) (hn : Num w1 wr.heap.size v (V ds)) (hb : Below wr.heap.size wr w1) :
    RetNum w (V xs - V ys) (.returned v) (w1.setCell ⟨w.heap.size + 2, 0, none⟩ u) := by
  have hs := harg.below.size
  have hr := harg.res.lt
  have hxl := V_lt hx
  have hdl' := V_lt hdd
  rw [hdl] at hdl'
  rw [hl1, ← h1] at hxl
  rw [V_take_all xs l (by omega)] at hv
  have hys : V ys = V (ys.take l) + 65536 ^ (ys.take l).length * V (ys.drop l) := by rw [← V_append, List.take_append_drop]
  have htl : V (ys.take l) = V ys := by
    rcases Nat.lt_or_ge l ys.length with h | h
    · rw [show (ys.take l).length = l by simp; omega] at hys
      rcases Nat.eq_zero_or_pos (V (ys.drop l)) with h0 | h0
      · rw [h0] at hys; omega
      · have := Nat.mul_le_mul_left (65536 ^ l) h0
        omega
    · exact V_take_all ys l h
  rw [htl] at hv
  have hun : un = 0 := by
    rcases Nat.eq_zero_or_pos un with h0 | h0
    · exact h0
    · have := Nat.mul_le_mul_left (65536 ^ l) h0
      omega
  subst hun
  have hv' : V ds = V xs - V ys := by simp at hv; omega
  rw [← hv']
  exact ⟨v, rfl, (hn.old (by simp; omega) _).more hs, (harg.more hb).below.setCell (by simp) _⟩

set_option maxHeartbeats 1600000 in
theorem sub_any (A1 A2 : Option Addr) (xs ys : List Nat) (n1 c1 n2 c2 M : Nat) (w : World) (hl1 : xs.length = n1) (hl2 : ys.length = n2) (hr1 : Rd w w.heap.size A1 xs) (hr2 : Rd w w.heap.size A2 ys)
    (hd1 : Dig xs) (hd2 : Dig ys) (hn1 : n1 ≤ M) (hn2 : n2 ≤ M) (hM : M ≤ 100000) (hle : V ys ≤ V xs) :
    Calls Tryd.prog 59 #[.agg #[.slice A1 n1 c1], .agg #[.slice A2 n2 c2]] w (RetNum w (V xs - V ys)) := by
  have HL1 := Lib.hid hl1
  have HL2 := Lib.hid hl2
  clear hl1 hl2
  go_enter Tryd.func59, Tryd.ntmps59
  go_wp2_with fail
  go_loopw [5, 6, 7] (fun v o i wr => ∃ k un : Nat, i = .int .i64 (k : Int) ∧ o = .int .i64 (un : Int) ∧ k ≤ n1 ∧ SubRel xs ys w (.slice A1 n1 c1) (.slice A2 n2 c2) k un v wr) (fun _ _ i _ => n1 - (intOf i).toNat)
  case atStart => exact ⟨0, 0, rfl, rfl, by omega, [], none, 0, 0, rfl, rfl, rfl, Nat.le_refl _, World.ownsRow_nil _ _ _ _, Dig.nil, by simp [V], by omega, Args2.start _ _ _⟩
  case round =>
    obtain ⟨k, un, rfl, rfl, hk, ds, A, l, c, rfl, hl, rfl, hc, hown, hd, hv, hun, harg⟩ := hrel
    have HL := Lib.hid hl
    have HO := Lib.hid hown
    have HV := Lib.hid hv
    have ca := harg.one.cell 0
    have cb := harg.two.cell 0
    have hx0 := hd1.nth l
    have hy0 := hd2.nth l
    clear hl hown hv
    by_cases ht : l < n1
    · go_wp2_with fail
      go_region_held3 (fun w' => w'.cell? ⟨w.heap.size, 0, none⟩ = some (.slice A1 n1 c1) ∧ w'.cell? ⟨w.heap.size + 1, 0, none⟩ = some (.slice A2 n2 c2) ∧ Below wr.heap.size wr w')
        (first | exact ⟨ca, cb, (Below.refl _ _).drew⟩ | assumption)
        (first
          | (go_at_call 69; with_reducible refine (digit_any A1 xs n1 c1 l _ HL1.out (rd_far hr1 harg.below (by assumption)) (by omega)).mono ?_; rintro e w' ⟨rfl, hb'⟩; have hS := held_more hb' (by assumption))
          | (go_at_call 69; with_reducible refine (digit_any A2 ys n2 c2 l _ HL2.out (rd_far hr2 harg.below (by assumption)) (by omega)).mono ?_; rintro e w' ⟨rfl, hb'⟩; have hS := held_more hb' (by assumption)))
      have hB : Below wr.heap.size wr w' := hS.2.2
      have harg2 := harg.more hB
      have HO2 := Lib.hid (owns_any_below HO.out hB)
      by_cases hlt : nth xs l < nth ys l + un
      · obtain ⟨X, hX⟩ : ∃ X, X + nth ys l + un = nth xs l + 65536 := ⟨nth xs l + 65536 - (nth ys l + un), by omega⟩
        rw [sub_wrap _ _ _ X 65536 hx0 hy0 hun hX (by omega)]
        have hX2 : X < 65536 := by omega
        have HX : Hid (X + nth ys l + un = nth xs l + 65536 * 1) := Lib.hid (by omega)
        clear hX hS ca cb hlt
        go_wp2_with (at_builtin; go_loud (refine wpList_append_ints _ rfl (.tmp 29) (.tmp 31) 31 rfl (w.heap.size + 3) 3 Tryd.underlying31 info_int (.slice A l c) ds rfl (by rw [HL.out]; exact HO2.out.alloc _) (w'.heap.size + 1) (some ⟨w'.heap.size, 0, none⟩) 1 [X] _ rfl rfl (Rd.one _ _ _) (by have := HL.out; simp; omega) (by have := harg2.res.lt; simp; omega) ?_); intro A' n' c' w1 hl1 hc1 hown1 hg1)
        go_roundw
        case rel => exact ⟨l + 1, 1, by go_num, by go_num, by omega, sub_step HL.out hd HV.out HX.out hX2 (by omega) harg hB hl1.out hc1 hown1.out HO2.out hg1⟩
        case measure => simp [intOf]; omega
      · obtain ⟨X, hX⟩ : ∃ X, X + nth ys l + un = nth xs l + 0 := ⟨nth xs l - (nth ys l + un), by omega⟩
        rw [sub_wrap _ _ _ X 0 hx0 hy0 hun hX (by omega)]
        have hX2 : X < 65536 := by omega
        have HX : Hid (X + nth ys l + un = nth xs l + 65536 * 0) := Lib.hid (by omega)
        clear hX hS ca cb hlt
        go_wp2_with (at_builtin; go_loud (refine wpList_append_ints _ rfl (.tmp 29) (.tmp 31) 31 rfl (w.heap.size + 3) 3 Tryd.underlying31 info_int (.slice A l c) ds rfl (by rw [HL.out]; exact HO2.out.alloc _) (w'.heap.size + 1) (some ⟨w'.heap.size, 0, none⟩) 1 [X] _ rfl rfl (Rd.one _ _ _) (by have := HL.out; simp; omega) (by have := harg2.res.lt; simp; omega) ?_); intro A' n' c' w1 hl1 hc1 hown1 hg1)
        go_roundw
        case rel => exact ⟨l + 1, 0, by go_num, by go_num, by omega, sub_step HL.out hd HV.out HX.out hX2 (by omega) harg hB hl1.out hc1 hown1.out HO2.out hg1⟩
        case measure => simp [intOf]; omega
    · go_wp2_with fail
      refine (cut_any A ds l c _ HL.out ((Rd.of_own HO.out)) hd (by omega) hc).mono ?_
      rintro e w1 ⟨v, rfl, hn3, hb3⟩
      obtain ⟨A3, n3, c3, rfl⟩ := hn3.shape
      have hres := (harg.more hb3).res
      have hcell := hres.cell 0
      have hfro := hres.frozen 0
      have HN := Lib.hid hn3
      clear hn3
      go_wp2_with fail
      exact bodyPost_ret (v := .agg #[.slice A3 n3 c3]) (by simp [results, Tryd.results59, go_sem, hcell, hfro]) rfl
        (sub_done HL1.out (by omega) HL.out hd1 hd hle HV.out harg HN.out hb3)
end Go.Proofs.YtemalomcdiahiaaDoor
