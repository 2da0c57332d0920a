/-
  The document's numbers, in digits: digit(a, i).
  The document's numbers, in digits: Cut.
  The document's numbers, in digits: Of.
  The document's numbers, in digits: Word.
-/
import Derived.Test.YtcanahjilfnijaaProg
import Derived.Test.YtcanahjilfnijaaMA
import Derived.Outline
import Derived.LoopTactic
import Derived.ProofKit
namespace Go.Proofs.Ytcanahjilfnijaa
open Go.RowKit

set_option maxHeartbeats 400000 in
theorem digit_in (A : Option Addr) (xs : List Nat) (n c i : Nat) (w : World) (hl : xs.length = n) (hr : Rd w w.heap.size A xs) (hi : i < n) (hn : n ≤ 1000000) :
    Calls Try.prog 25 #[.agg #[.slice A n c], .int .i64 (i : Int)] w fun e w' => e = .returned (.int .i64 ((nth xs i : Nat) : Int)) ∧ Below w.heap.size w w' := by
  obtain ⟨b, o, rfl, hb, hci⟩ := hr.at_ (k := i) (by omega)
  clear hr hl
  go_enter Try.func25, Try.ntmps25
  go_wp2
  go_ret
  exact ⟨rfl, (Below.refl _ _).alloc (Nat.le_refl _) _⟩

set_option maxHeartbeats 400000 in
theorem digit_out (A : Option Addr) (xs : List Nat) (n c i : Nat) (w : World) (hl : xs.length = n) (hi : n ≤ i) :
    Calls Try.prog 25 #[.agg #[.slice A n c], .int .i64 (i : Int)] w fun e w' => e = .returned (.int .i64 0) ∧ Below w.heap.size w w' := by
  have hi' : ¬ i < n := by omega
  clear hl
  go_enter Try.func25, Try.ntmps25
  go_wp2
  go_ret
  exact ⟨rfl, (Below.refl _ _).alloc (Nat.le_refl _) _⟩

theorem digit_any (A : Option Addr) (xs : List Nat) (n c i : Nat) (w : World) (hl : xs.length = n) (hr : Rd w w.heap.size A xs) (hn : n ≤ 1000000) :
    Calls Try.prog 25 #[.agg #[.slice A n c], .int .i64 (i : Int)] w fun e w' => e = .returned (.int .i64 ((nth xs i : Nat) : Int)) ∧ Below w.heap.size w w' := by
  by_cases hi : i < n
  · exact digit_in A xs n c i w hl hr hi hn
  · refine (digit_out A xs n c i w hl (by omega)).mono fun e w' h => ?_
    rw [nth_out (by omega)]
    exact h
end Go.Proofs.Ytcanahjilfnijaa

namespace Go.Proofs.Ytcanahjilfnijaa
open Go.RowKit

theorem info_int : (Try.prog.info? 3).map (fun i => (i.zero, i.size, i.bytes)) = some (some (.int .i64 0), 1, 8) := by kernel_rfl

/-- The field D of a number. -/
theorem field_D : ∀ (A : Option Addr) (n c : Nat) (w : World), (Instr.field 36 (.agg #[.slice A n c]) 0).run Try.prog w = .ok (.slice A n c) w := fun _ _ _ _ => by kernel_rfl

/-- v is the document's number a, in canonical digits, in world w; its digits lie from block L on. -/
def Num (w : World) (L : Nat) (v : Value) (a : Nat) : Prop := ∃ A xs n c, v = .agg #[.slice A n c] ∧ xs.length = n ∧ n ≤ c ∧ Rd w w.heap.size A xs ∧ Fr L A xs ∧ Can xs ∧ V xs = a
theorem setCell_size (w : World) (p : Addr) (u : Value) : (w.setCell p u).heap.size = w.heap.size := by simp [World.setCell]
theorem Num.old {w : World} {L : Nat} {v : Value} {a : Nat} (h : Num w L v a) {p : Addr} (hp : p.block < L) (u : Value) : Num (w.setCell p u) L v a := by
  obtain ⟨A, xs, n, c, h1, hl, h2, h3, h4, h5⟩ := h
  exact ⟨A, xs, n, c, h1, hl, h2, by rw [setCell_size]; exact h3.old h4 hp u, h4, h5⟩
theorem Num.more {w : World} {L L' : Nat} {v : Value} {a : Nat} (h : Num w L v a) (hL : L' ≤ L) : Num w L' v a := by
  obtain ⟨A, xs, n, c, h1, hl, h2, h3, h4, h5⟩ := h
  exact ⟨A, xs, n, c, h1, hl, h2, h3, h4.more hL, h5⟩
theorem Num.below {w w' : World} {L : Nat} {v : Value} {a : Nat} (h : Num w L v a) (hb : Below w.heap.size w w') : Num w' L v a := by
  obtain ⟨A, xs, n, c, h1, hl, h2, h3, h4, h5⟩ := h
  exact ⟨A, xs, n, c, h1, hl, h2, (h3.below hb (Nat.le_refl _)).more hb.size, h4, h5⟩
theorem Num.alloc {w : World} {L : Nat} {v : Value} {a : Nat} (h : Num w L v a) (o : Obj) : Num (w.alloc o) L v a := h.below ((Below.refl _ _).alloc (Nat.le_refl _) _)
/-- The number of digits of a small number. -/
theorem Num.form {w : World} {L : Nat} {v : Value} {a : Nat} (h : Num w L v a) {k : Nat} (hk : a < 65536 ^ k) :
    ∃ A xs n c, v = .agg #[.slice A n c] ∧ Hid (xs.length = n) ∧ n ≤ c ∧ Rd w w.heap.size A xs ∧ Can xs ∧ Hid (V xs = a) ∧ n ≤ k := by
  obtain ⟨A, xs, n, c, h1, hl, h2, h3, h4, h5, h6⟩ := h
  exact ⟨A, xs, n, c, h1, hl, h2, h3, h5, h6, by have := h5.len (k := k) (by omega); omega⟩
theorem Num.shape {w : World} {L : Nat} {v : Value} {a : Nat} (h : Num w L v a) : ∃ A n c, v = .agg #[.slice A n c] := by
  obtain ⟨A, xs, n, c, h1, _⟩ := h
  exact ⟨A, n, c, h1⟩
/-- What a function answers that makes the number a: all that was there is as it was. -/
def RetNum (w : World) (a : Nat) (e : Ending) (w' : World) : Prop := ∃ v, e = .returned v ∧ Num w' w.heap.size v a ∧ Below w.heap.size w w'

theorem cut_done {w w1 : World} {A' : Option Addr} {c' n' n : Nat} {xs : List Nat} {u : Value} (hl : ([] ++ xs.take n).length = n') (hc : n' ≤ c')
    (hown : w1.ownsRow (w.heap.size + 1) 3 1 (.slice A' n' c') n' (ints ([] ++ xs.take n)))
    (hg : ((w.alloc (.cells #[.slice none 0 0] 36)).alloc (.cells #[] 3)).grownBy w1 (Value.slice (some ⟨w.heap.size + 1, 0, none⟩) 0 0).ownBlock)
    (hcan : Can (xs.take n)) (hv : V (xs.take n) = V xs) :
    RetNum w (V xs) (.returned (.agg #[.slice A' n' c'])) (w1.setCell ⟨w.heap.size, 0, none⟩ u) := by
  rw [List.nil_append] at hown hl
  refine ⟨_, rfl, ⟨A', xs.take n, n', c', rfl, hl, hc, ?_, ?_, hcan, hv⟩, ?_⟩
  · exact Rd.of_own_set hown (by simp) _
  · exact (Fr.of_own hown).more (by omega)
  · refine Below.setCell ?_ (by simp) _
    exact (((Below.refl _ _).alloc (Nat.le_refl _) _).alloc (by simp) _).grown hg (by simp; omega) (by intro k hk; simp [Value.ownBlock] at hk; omega)

theorem cut_blk {w w1 : World} (hg : ((w.alloc (.cells #[.slice none 0 0] 36)).alloc (.cells #[] 3)).grownBy w1 (Value.slice (some ⟨w.heap.size + 1, 0, none⟩) 0 0).ownBlock) :
    w1.cell? ⟨w.heap.size, 0, none⟩ = some (.slice none 0 0) ∧ w1.frozen? ⟨w.heap.size, 0, none⟩ = false := by
  have h := ((Blk.new w 36 #[.slice none 0 0]).alloc (.cells #[] 3)).grown hg (by simp [Value.ownBlock])
  exact ⟨h.cell 0, h.frozen 0⟩

set_option maxHeartbeats 400000 in
theorem cut_any (A : Option Addr) (xs : List Nat) (l c : Nat) (w : World) (hll : xs.length = l) (hr : Rd w w.heap.size A xs) (hd : Dig xs) (hn : l ≤ 1000000) (hc : l ≤ c) :
    Calls Try.prog 26 #[.slice A l c] w (RetNum w (V xs)) := by
  have HLL := Lib.hid hll
  clear hll
  go_enter Try.func26, Try.ntmps26
  go_wp2
  go_loop [3] (fun v => ∃ n : Nat, n ≤ l ∧ v = .int .i64 n ∧ ∀ j, n ≤ j → nth xs j = 0) (fun v => (intOf v).toNat)
  case atStart => exact ⟨_, Nat.le_refl _, rfl, fun j hj => nth_out (by have := HLL.out; omega)⟩
  case round =>
    obtain ⟨n, hnl, rfl, hz⟩ := hrel
    have HZ := Lib.hid hz
    clear hz
    have HL : Hid ((xs.take n).length = n) := Lib.hid (by have := HLL.out; simp; omega)
    have hr2 := (hr.alloc (Nat.le_refl _) (.cells #[.slice none 0 0] 36)).alloc (by simp) (.cells #[] 3)
    have HR := Lib.hid (hr2.take n)
    have HO : Hid (((w.alloc (.cells #[.slice none 0 0] 36)).alloc (.cells #[] 3)).ownsRow (w.heap.size + 1) 3 1 (.slice (some ⟨w.heap.size + 1, 0, none⟩) 0 0) ([] : List Nat).length (ints [])) :=
      Lib.hid (by have := World.ownsRow_made (base := w.heap.size + 1) (e := 3) (size := 1) (w.alloc (.cells #[.slice none 0 0] 36)) #[] 0 (by simp) (by decide) rfl; simpa [ints] using this)
    clear hr2
    have HV : Hid (V (xs.take n) = V xs) := Lib.hid (V_zeros xs n HZ.out)
    by_cases hpos : 0 < n
    · obtain ⟨m, rfl⟩ : ∃ m, n = m + 1 := ⟨n - 1, by omega⟩
      obtain ⟨b, o, hA, hb, hcm⟩ := hr.at_ (k := m) (by have := HLL.out; omega)
      subst hA
      by_cases h0 : nth xs m = 0
      · have h0' : (((nth xs m : Nat) : Int) == 0) = true := by simp [h0]
        have H0 := Lib.hid h0
        clear h0
        go_wp2
        go_round
        case rel =>
          refine ⟨m, by omega, by go_num, fun j hj => ?_⟩
          rcases Nat.lt_or_ge m j with h | h
          · exact HZ.out j h
          · rw [show j = m by omega]; exact H0.out
        case measure => simp [intOf]
      · have h0' : (((nth xs m : Nat) : Int) == 0) = false := by simp [h0]
        have HC : Hid (Can (xs.take (m + 1))) := Lib.hid (Can.of_take hd (by have := HLL.out; omega) (fun _ => by simpa using h0))
        clear h0 HZ
        go_wp2_with (at_builtin; go_loud (refine wpList_append_ints _ rfl (.tmp 18) (.tmp 21) 34 rfl (w.heap.size + 1) 3 Try.underlying34 info_int (.slice (some ⟨w.heap.size + 1, 0, none⟩) 0 0) [] rfl HO.out w.heap.size (some ⟨b, o, none⟩) (m + 1) (xs.take (m + 1)) _ HL.out rfl HR.out (by have := HLL.out; simp; omega) (by simp) ?_); intro A' n' c' w1 hl1 hc1 hown1 hg1; obtain ⟨hcell, hfro⟩ := cut_blk hg1)
        exact bodyPost_ret (v := .agg #[.slice A' n' c']) (by simp [results, Try.results26, go_sem, hcell, hfro]) rfl (cut_done hl1.out hc1 hown1.out hg1 HC.out HV.out)
    · obtain rfl : n = 0 := by omega
      have HC : Hid (Can (xs.take 0)) := Lib.hid Can.nil
      clear HZ
      go_wp2_with (at_builtin; go_loud (refine wpList_append_ints _ rfl (.tmp 18) (.tmp 21) 34 rfl (w.heap.size + 1) 3 Try.underlying34 info_int (.slice (some ⟨w.heap.size + 1, 0, none⟩) 0 0) [] rfl HO.out w.heap.size A 0 (xs.take 0) _ HL.out rfl HR.out (by simp) (by simp) ?_); intro A' n' c' w1 hl1 hc1 hown1 hg1; obtain ⟨hcell, hfro⟩ := cut_blk hg1)
      exact bodyPost_ret (v := .agg #[.slice A' n' c']) (by simp [results, Try.results26, go_sem, hcell, hfro]) rfl (cut_done hl1.out hc1 hown1.out hg1 HC.out HV.out)
end Go.Proofs.Ytcanahjilfnijaa

namespace Go.Proofs.Ytcanahjilfnijaa
open Go.RowKit

theorem half_step {q k : Nat} (h : q < 2 ^ (64 - k)) (h0 : 0 < q) : k < 64 ∧ q / 65536 < 2 ^ (64 - (k + 1)) := by
  have hk : k < 64 := by
    rcases Nat.lt_or_ge k 64 with h1 | h1
    · exact h1
    · rw [show 64 - k = 0 by omega] at h; simp at h; omega
  refine ⟨hk, ?_⟩
  rw [show 64 - k = (64 - (k + 1)) + 1 by omega, Nat.pow_succ] at h
  omega

/-- What holds at each round's head: ds are the digits so far, q the rest. -/
def OfRel (n : Nat) (w : World) (q : Nat) (v : Value) (wr : World) : Prop :=
  ∃ ds A l c, v = .slice A l c ∧ ds.length = l ∧ l ≤ c ∧ wr.ownsRow (w.heap.size + 1) 3 1 v l (ints ds) ∧ Dig ds ∧ V ds + 65536 ^ l * q = n ∧ q < 2 ^ (64 - l) ∧ (q = 0 → Can ds) ∧
    l ≤ 64 ∧ Below w.heap.size w wr ∧ Blk wr w.heap.size 36 #[.slice none 0 0]

theorem of_step {n : Nat} {w : World} {q : Nat} {wr : World} {A : Option Addr} {c l : Nat} {ds : List Nat} (hl : ds.length = l) (hv : V ds + 65536 ^ l * q = n) (hq : q < 2 ^ (64 - l)) (hd : Dig ds) (hb : Below w.heap.size w wr)
    (hblk : Blk wr w.heap.size 36 #[.slice none 0 0]) (h0 : 0 < q) {A' : Option Addr} {n' c' : Nat} {w1 : World} (hl' : (ds ++ [q % 65536]).length = n') (hc : n' ≤ c')
    (hown : wr.ownsRow (w.heap.size + 1) 3 1 (.slice A l c) l (ints ds))
    (hown1 : w1.ownsRow (w.heap.size + 1) 3 1 (.slice A' n' c') n' (ints (ds ++ [q % 65536])))
    (hg : (wr.alloc (.cells #[.int .i64 ((q % 65536 : Nat) : Int)] 3)).grownBy w1 (Value.slice A l c).ownBlock) :
    OfRel n w (q / 65536) (.slice A' n' c') w1 := by
  subst hl
  have hs := half_step hq h0
  have hrow : ∀ k, (Value.slice A ds.length c).ownBlock = some k → w.heap.size + 1 ≤ k := fun k hk => (hown.lt k hk).1
  have hn' : ds.length + 1 = n' := by rw [← hl']; simp
  subst hn'
  refine ⟨ds ++ [q % 65536], A', _, c', rfl, hl', hc, hown1, hd.snoc (by omega), ?_, hs.2, fun hz => Can.snoc hd (by omega) (by omega), by omega, ?_, ?_⟩
  · rw [V_snoc, ← hv, Nat.pow_succ]
    have := Nat.div_add_mod q 65536
    generalize q / 65536 = a at *
    generalize q % 65536 = b at *
    subst this
    grind
  · exact (hb.alloc hb.size _).grown hg (by have := hb.size; simp; omega) (fun k hk => by have := hrow k hk; omega)
  · exact (hblk.alloc _).grown hg (fun e => by have := hrow _ e.symm; omega)

set_option maxHeartbeats 400000 in
theorem of_any (n : Nat) (w : World) (hn : n < 18446744073709551616) :
    Calls Try.prog 10 #[.int .u64 (n : Int)] w (RetNum w n) := by
  have hN : n < 2 ^ (64 - ([] : List Nat).length) := by simpa using hn
  have HN := Lib.hid hN
  clear hN
  go_enter Try.func10, Try.ntmps10
  go_wp2
  go_loopw [0, 3] (fun p v wr => ∃ q : Nat, p = .int .u64 (q : Int) ∧ q < 18446744073709551616 ∧ OfRel n w q v wr) (fun p _ _ => (intOf p).toNat)
  case atStart =>
    exact ⟨n, rfl, hn, [], none, 0, 0, rfl, rfl, Nat.le_refl _, World.ownsRow_nil _ _ _ _, Dig.nil, by simp [V], HN.out, fun _ => Can.nil, by simp, (Below.refl _ _).alloc (Nat.le_refl _) _, Blk.new _ _ _⟩
  case round =>
    obtain ⟨q, rfl, hq, ds, A, l, c, rfl, hll, hc, hown, hd, hv, hql, hcan, hl, hb, hblk⟩ := hrel
    have HLL := Lib.hid hll
    have HV := Lib.hid hv
    have HQ := Lib.hid hql
    have HC := Lib.hid hcan
    have HO := Lib.hid hown
    have hc0 := hblk.cell 0
    have hf0 := hblk.frozen 0
    clear hv hql hcan hown hll
    by_cases h0 : 0 < q
    · go_wp2_with (at_builtin; go_loud (refine wpList_append_ints _ rfl (.tmp 6) (.tmp 10) 34 rfl (w.heap.size + 1) 3 Try.underlying34 info_int (.slice A l c) ds rfl (by rw [HLL.out]; exact HO.out.alloc _) (wr.heap.size + 1) (some ⟨wr.heap.size, 0, none⟩) 1 [q % 65536] _ rfl rfl (Rd.one _ _ _) (by have := HLL.out; simp; omega) (by have := hb.size; simp; omega) ?_); intro A' n' c' w1 hl1 hc1 hown1 hg1)
      go_roundw
      case rel => exact ⟨q / 65536, by go_num, by omega, of_step HLL.out HV.out HQ.out hd hb hblk h0 hl1.out hc1 HO.out hown1.out hg1⟩
      case measure => simp [intOf]; omega
    · obtain rfl : q = 0 := by omega
      have HC0 : Hid (Can ds) := Lib.hid (HC.out rfl)
      clear HC
      go_wp2
      refine bodyPost_ret (v := .agg #[.slice A l c]) (by simp [results, Try.results10, go_sem, hc0, hf0]) rfl ?_
      exact ⟨_, rfl, ⟨A, ds, l, c, rfl, HLL.out, hc, Rd.of_own_set HO.out (by simp) _, (Fr.of_own HO.out).more (by omega), HC0.out, by have := HV.out; simpa using this⟩, hb.setCell (by simp) _⟩
end Go.Proofs.Ytcanahjilfnijaa

namespace Go.Proofs.Ytcanahjilfnijaa
open Go.RowKit

theorem word_step {xs : List Nat} (hd : Dig xs) (h4 : xs.length ≤ 4) {m : Nat} (hm : m + 1 ≤ xs.length) : V (xs.drop (m + 1)) < 281474976710656 ∧ nth xs m < 65536 ∧ V (xs.drop m) = V (xs.drop (m + 1)) * 65536 + nth xs m := by
  have h1 := V_lt (hd.drop (m + 1))
  have h2 : 65536 ^ (xs.drop (m + 1)).length ≤ 65536 ^ 3 := Nat.pow_le_pow_right (by omega) (by simp; omega)
  have h3 := V_drop xs m
  refine ⟨by omega, hd.nth m, by omega⟩

set_option maxHeartbeats 400000 in
theorem word_any (A : Option Addr) (xs : List Nat) (l c : Nat) (w : World) (hl : xs.length = l) (hr : Rd w w.heap.size A xs) (hd : Dig xs) (hn : l ≤ 4) :
    Calls Try.prog 8 #[.agg #[.slice A l c]] w fun e w' => e = .returned (.tuple #[.int .u64 ((V xs : Nat) : Int), .bool true]) ∧ Below w.heap.size w w' := by
  have HL := Lib.hid hl
  clear hl
  go_enter Try.func8, Try.ntmps8
  go_wp2
  go_loop [4, 5] (fun v i => ∃ k : Nat, k ≤ l ∧ i = .int .i64 ((k : Int) - 1) ∧ v = .int .u64 ((V (xs.drop k) : Nat) : Int)) (fun _ i => (intOf i + 1).toNat)
  case atStart => exact ⟨l, Nat.le_refl _, rfl, by rw [← HL.out]; simp [V]⟩
  case round =>
    obtain ⟨k, hk, rfl, rfl⟩ := hrel
    by_cases h0 : 0 < k
    · obtain ⟨m, rfl⟩ : ∃ m, k = m + 1 := ⟨k - 1, by omega⟩
      obtain ⟨h1, h2, h3⟩ := word_step hd (by have := HL.out; omega) (by have := HL.out; omega : m + 1 ≤ xs.length)
      have H3 := Lib.hid h3
      clear h3
      obtain ⟨b, o, rfl, hb, hcm⟩ := hr.at_ (k := m) (by have := HL.out; omega)
      go_wp2
      go_round
      case rel => exact ⟨m, by omega, by go_num, by rw [H3.out]; go_num⟩
      case measure => simp [intOf]
    · obtain rfl : k = 0 := by omega
      go_wp2
      go_ret2
      exact ⟨rfl, (Below.refl _ _).alloc (Nat.le_refl _) _⟩

set_option maxHeartbeats 400000 in
theorem word_no (A : Option Addr) (n : Nat) (c : Nat) (w : World) (hn : 4 < n) :
    Calls Try.prog 8 #[.agg #[.slice A n c]] w fun e w' => e = .returned (.tuple #[.int .u64 0, .bool false]) ∧ Below w.heap.size w w' := by
  go_enter Try.func8, Try.ntmps8
  go_wp2
  go_ret2
  exact ⟨rfl, (Below.refl _ _).alloc (Nat.le_refl _) _⟩
end Go.Proofs.Ytcanahjilfnijaa
