/-
  The document's numbers, in digits: Of.
-/
import Derived.Test.YtnaofoahnjceiaaDoorCut
namespace Go.Proofs.YtnaofoahnjceiaaDoor
open Go.RowKit

theorem half_step {q k : Nat} (h : q < 2 ^ (64 - k)) (h0 : 0 < q) : k < 64 ∧ q / 65536 < 2 ^ (64 - (k + 1)) := by
  have hk : k < 64 := by
    rcases Nat.lt_or_ge k 64 with h1 | h1
    · exact h1
    · rw [show 64 - k = 0 by omega] at h; simp at h; omega
  refine ⟨hk, ?_⟩
  rw [show 64 - k = (64 - (k + 1)) + 1 by omega, Nat.pow_succ] at h
  omega

/-- What holds at each round's head: ds are the digits so far, q the rest. -/
def OfRel (n : Nat) (w : World) (q : Nat) (v : Value) (wr : World) : Prop :=
  ∃ ds A l c, v = .slice A l c ∧ ds.length = l ∧ l ≤ c ∧ wr.ownsRow (w.heap.size + 1) 3 1 v l (ints ds) ∧ Dig ds ∧ V ds + 65536 ^ l * q = n ∧ q < 2 ^ (64 - l) ∧ (q = 0 → Can ds) ∧
    l ≤ 64 ∧ Below w.heap.size w wr ∧ Blk wr w.heap.size 28 #[.slice none 0 0]

theorem of_step {n : Nat} {w : World} {q : Nat} {wr : World} {A : Option Addr} {c l : Nat} {ds : List Nat} (hl : ds.length = l) (hv : V ds + 65536 ^ l * q = n) (hq : q < 2 ^ (64 - l)) (hd : Dig ds) (hb : Below w.heap.size w wr)
    (hblk : Blk wr w.heap.size 28 #[.slice none 0 0]) (h0 : 0 < q) {A' : Option Addr} {n' c' : Nat} {w1 : World} (hl' : (ds ++ [q % 65536]).length = n') (hc : n' ≤ c')
    (hown : wr.ownsRow (w.heap.size + 1) 3 1 (.slice A l c) l (ints ds))
    (hown1 : w1.ownsRow (w.heap.size + 1) 3 1 (.slice A' n' c') n' (ints (ds ++ [q % 65536])))
    (hg : (wr.alloc (.cells #[.int .i64 ((q % 65536 : Nat) : Int)] 3)).grownBy w1 (Value.slice A l c).ownBlock) :
    OfRel n w (q / 65536) (.slice A' n' c') w1 := by
  subst hl
  have hs := half_step hq h0
  have hrow : ∀ k, (Value.slice A ds.length c).ownBlock = some k → w.heap.size + 1 ≤ k := fun k hk => (hown.lt k hk).1
  have hn' : ds.length + 1 = n' := by rw [← hl']; simp
  subst hn'
  refine ⟨ds ++ [q % 65536], A', _, c', rfl, hl', hc, hown1, hd.snoc (by omega), ?_, hs.2, fun hz => Can.snoc hd (by omega) (by omega), by omega, ?_, ?_⟩
  · rw [V_snoc, ← hv, Nat.pow_succ]
    have := Nat.div_add_mod q 65536
    generalize q / 65536 = a at *
    generalize q % 65536 = b at *
    subst this
    grind
  · exact (hb.alloc hb.size _).grown hg (by have := hb.size; simp; omega) (fun k hk => by have := hrow k hk; omega)
  · exact (hblk.alloc _).grown hg (fun e => by have := hrow _ e.symm; omega)

set_option maxHeartbeats 400000 in
theorem of_any (n : Nat) (w : World) (hn : n < 18446744073709551616) :
    Calls Tryd.prog 12 #[.int .u64 (n : Int)] w (RetNum w n) := by
  have hN : n < 2 ^ (64 - ([] : List Nat).length) := by simpa using hn
  have HN := Lib.hid hN
  clear hN
  go_enter Tryd.func12, Tryd.ntmps12
  go_wp2
  go_loopw [0, 3] (fun p v wr => ∃ q : Nat, p = .int .u64 (q : Int) ∧ q < 18446744073709551616 ∧ OfRel n w q v wr) (fun p _ _ => (intOf p).toNat)
  case atStart =>
    exact ⟨n, rfl, hn, [], none, 0, 0, rfl, rfl, Nat.le_refl _, World.ownsRow_nil _ _ _ _, Dig.nil, by simp [V], HN.out, fun _ => Can.nil, by simp, (Below.refl _ _).alloc (Nat.le_refl _) _, Blk.new _ _ _⟩
  case round =>
    obtain ⟨q, rfl, hq, ds, A, l, c, rfl, hll, hc, hown, hd, hv, hql, hcan, hl, hb, hblk⟩ := hrel
    have HLL := Lib.hid hll
    have HV := Lib.hid hv
    have HQ := Lib.hid hql
    have HC := Lib.hid hcan
    have HO := Lib.hid hown
    have hc0 := hblk.cell 0
    have hf0 := hblk.frozen 0
    clear hv hql hcan hown hll
    by_cases h0 : 0 < q
    · go_wp2_with (at_builtin; go_loud (refine wpList_append_ints _ rfl (.tmp 6) (.tmp 10) 26 rfl (w.heap.size + 1) 3 Tryd.underlying26 info_int (.slice A l c) ds rfl (by rw [HLL.out]; exact HO.out.alloc _) (wr.heap.size + 1) (some ⟨wr.heap.size, 0, none⟩) 1 [q % 65536] _ rfl rfl (Rd.one _ _ _) (by have := HLL.out; simp; omega) (by have := hb.size; simp; omega) ?_); intro A' n' c' w1 hl1 hc1 hown1 hg1)
      go_roundw
      case rel => exact ⟨q / 65536, by go_num, by omega, of_step HLL.out HV.out HQ.out hd hb hblk h0 hl1.out hc1 HO.out hown1.out hg1⟩
      case measure => simp [intOf]; omega
    · obtain rfl : q = 0 := by omega
      have HC0 : Hid (Can ds) := Lib.hid (HC.out rfl)
      clear HC
      go_wp2
      refine bodyPost_ret (v := .agg #[.slice A l c]) (by simp [results, Tryd.results12, go_sem, hc0, hf0]) rfl ?_
      exact ⟨_, rfl, ⟨A, ds, l, c, rfl, HLL.out, hc, Rd.of_own_set HO.out (by simp) _, (Fr.of_own HO.out).more (by omega), HC0.out, by have := HV.out; simpa using this⟩, hb.setCell (by simp) _⟩
end Go.Proofs.YtnaofoahnjceiaaDoor
