/-
  Numbers and texts as bytes: what is put.
-/
import Derived.Test.YtbogejpjnbdfcaaMem8
import Derived.Test.YtbogejpjnbdfcaaSkip
import Derived.Outline
import Derived.LoopTactic
import Derived.ProofKit
namespace Go.Proofs.Ytbogejpjnbdfcaa
open Go.RowKit
set_option maxRecDepth 100000

/-- The bytes of a number. -/
def pn (n : Nat) : List UInt8 := if _ : n < 128 then [UInt8.ofNat n] else UInt8.ofNat (128 + n % 128) :: pn (n / 128)
termination_by n
theorem pn_small {n : Nat} (h : n < 128) : pn n = [UInt8.ofNat n] := by rw [pn, dif_pos h]
theorem pn_big {n : Nat} (h : 128 ≤ n) : pn n = UInt8.ofNat (128 + n % 128) :: pn (n / 128) := by rw [pn, dif_neg (by omega)]
theorem pn_len_le (k : Nat) : ∀ n, n < 128 ^ (k + 1) → (pn n).length ≤ k + 1 := by
  induction k with
  | zero => intro n h; rw [pn_small (by simpa using h)]; simp
  | succ k ih =>
    intro n h
    by_cases h1 : n < 128
    · rw [pn_small h1]; simp
    · rw [pn_big (by omega), List.length_cons]
      have := ih (n / 128) (by rw [Nat.pow_succ] at h; omega)
      omega
theorem pn_len {n : Nat} (h : n < 18446744073709551616) : (pn n).length ≤ 10 := pn_len_le 9 n (by omega)
theorem toNat_byte {n : Nat} (h : n < 256) : ((UInt8.ofNat n).toNat : Int) = (n : Int) := by rw [UInt8.toNat_ofNat_of_lt' (by simpa using h)]

/-- What a call answers that puts bytes: they are its own. -/
def RetB (base : Nat) (w : World) (xs : List UInt8) (e : Ending) (w' : World) : Prop :=
  ∃ A n c, e = .returned (.slice A n c) ∧ xs.length = n ∧ n ≤ c ∧ w'.ownsRow base 5 1 (.slice A n c) n (u8s xs) ∧ Below base w w'

theorem or_more : ∀ m : Fin 256, bits BinOp.or IntKind.u8 ((m.val : Nat) : Int) 128 = ((128 + m.val % 128 : Nat) : Int) := by decide
theorem or_byte (q : Nat) : bits BinOp.or IntKind.u8 ((q : Int) % 256) 128 = ((UInt8.ofNat (128 + q % 128)).toNat : Int) := by
  rw [toNat_byte (by omega)]
  have := or_more ⟨q % 256, by omega⟩
  rw [show ((q : Int) % 256) = ((q % 256 : Nat) : Int) by omega, this]
  simp only
  omega
theorem put_done {base : Nat} {w wr w1 : World} {xs ys : List UInt8} {l c : Nat} {A : Option Addr} {o : Obj} (hb : base ≤ w.heap.size) (hb1 : Below base w wr) (hown : wr.ownsRow base 5 1 (.slice A l c) l (u8s (xs ++ ys)))
    (hg : (wr.alloc o).grownBy w1 (Value.slice A l c).ownBlock) : Below base w w1 :=
  (hb1.alloc (by have := hb1.size; omega) _).grown hg (by have := hb1.size; simp; omega) (fun k hk => (hown.lt k hk).1)

theorem put_len {ys : List UInt8} {q n : Nat} (h : ys ++ pn q = pn n) (hn : n < 18446744073709551616) : ys.length ≤ 10 := by
  have := pn_len hn
  rw [← h, List.length_append] at this
  omega
def PutRel (base : Nat) (xs : List UInt8) (n : Nat) (w : World) (q : Nat) (v : Value) (wr : World) : Prop :=
  ∃ ys A l c, v = .slice A l c ∧ (xs ++ ys).length = l ∧ l ≤ c ∧ wr.ownsRow base 5 1 v l (u8s (xs ++ ys)) ∧ ys ++ pn q = pn n ∧ Below base w wr

set_option maxHeartbeats 1000000 in
theorem appendNum_any (base l c : Nat) (A : Option Addr) (xs : List UInt8) (n : Nat) (w : World) (hl : xs.length = l) (hc : l ≤ c) (hn : n < 18446744073709551616) (hown : w.ownsRow base 5 1 (.slice A l c) l (u8s xs))
    (hb : base ≤ w.heap.size) (hlen : l ≤ 1000000) : Calls Try.prog 25 #[.slice A l c, .int .u64 (n : Int)] w (RetB base w (xs ++ pn n)) := by
  have HL := Lib.hid hl
  have HO := Lib.hid hown
  clear hl hown
  go_enter Try.func25, Try.ntmps25
  go_wp2
  go_loopw [1, 0] (fun p v wr => ∃ q : Nat, p = .int .u64 (q : Int) ∧ q < 18446744073709551616 ∧ PutRel base xs n w q v wr) (fun p _ _ => (intOf p).toNat)
  case atStart =>
    exact ⟨n, rfl, hn, [], A, l, c, rfl, by simpa using HL.out, hc, by simpa using HO.out, by simp, Below.refl _ _⟩
  case round =>
    obtain ⟨q, rfl, hq, ys, A', l', c', rfl, hll, hc', hown', hv, hbel⟩ := hrel
    have HLL := Lib.hid hll
    have HV := Lib.hid hv
    have HOW := Lib.hid hown'
    clear hv hown' hll
    by_cases h0 : 128 ≤ q
    · have hor := or_byte q
      obtain ⟨d, hd⟩ : ∃ d, UInt8.ofNat (128 + q % 128) = d := ⟨_, rfl⟩
      rw [hd] at hor
      have HD := Lib.hid hd
      clear hd
      go_wp2_with (at_builtin; go_loud (refine wpList_append_u8s _ rfl (.tmp 7) (.tmp 11) 22 rfl base 5 Try.underlying22 info_b8 (.slice A' l' c') (xs ++ ys) rfl (by rw [HLL.out]; exact HOW.out.alloc _) (wr.heap.size + 1) (some ⟨wr.heap.size, 0, none⟩) 1 [d] _ rfl rfl (Rb.one _ _ _) (by have := HLL.out; have := put_len HV.out hn; simp only [List.length_append, List.length_singleton] at *; have := HL.out; omega) (by have := hbel.size; simp; omega) ?_); intro A2 n2 c2 w1 hl1 hc1 hown1 hg1)
      go_roundw
      case rel => exact ⟨q / 128, by go_num, by omega, ys ++ [d], A2, n2, c2, rfl, by rw [← List.append_assoc]; exact hl1.out, hc1, by rw [← List.append_assoc]; exact hown1.out, by rw [← HV.out, pn_big h0, HD.out]; simp, put_done hb hbel HOW.out hg1⟩
      case measure => simp [intOf]; omega
    · have hlo : (q : Int) = ((UInt8.ofNat q).toNat : Int) := (toNat_byte (by omega)).symm
      obtain ⟨d, hd⟩ : ∃ d, UInt8.ofNat q = d := ⟨_, rfl⟩
      rw [hd] at hlo
      have HD := Lib.hid hd
      have HLO := Lib.hid hlo
      clear hd hlo
      go_wp2_with (at_builtin; go_loud (refine wpList_append_u8s _ rfl (.tmp 15) (.tmp 18) 22 rfl base 5 Try.underlying22 info_b8 (.slice A' l' c') (xs ++ ys) rfl (by rw [HLL.out]; exact HOW.out.alloc _) (wr.heap.size + 1) (some ⟨wr.heap.size, 0, none⟩) 1 [d] _ rfl rfl (by rw [HLO.out]; exact Rb.one _ _ _) (by have := HLL.out; have := put_len HV.out hn; simp only [List.length_append, List.length_singleton] at *; have := HL.out; omega) (by have := hbel.size; simp; omega) ?_); intro A2 n2 c2 w1 hl1 hc1 hown1 hg1)
      go_ret
      exact ⟨A2, n2, c2, rfl, by rw [← HV.out, pn_small (by omega), HD.out, ← List.append_assoc]; exact hl1.out, hc1, by rw [← HV.out, pn_small (by omega), HD.out, ← List.append_assoc]; exact hown1.out, put_done hb hbel HOW.out hg1⟩

/-- .. and where the row lies that is written: in the old one, or in a new block. -/
def RetO (base : Nat) (v0 : Value) (w : World) (xs : List UInt8) (e : Ending) (w' : World) : Prop :=
  ∃ A n c, e = .returned (.slice A n c) ∧ xs.length = n ∧ n ≤ c ∧ w'.ownsRow base 5 1 (.slice A n c) n (u8s xs) ∧ Below base w w' ∧ w.grownBy w' v0.ownBlock ∧ ((Value.slice A n c).ownBlock = v0.ownBlock ∨ ∃ k, (Value.slice A n c).ownBlock = some k ∧ w.heap.size ≤ k)
theorem own_step {w wr w1 : World} {v0 v v' : Value} {o : Obj} (hg : w.grownBy wr v0.ownBlock) (hv : v.ownBlock = v0.ownBlock ∨ ∃ k, v.ownBlock = some k ∧ w.heap.size ≤ k) (hg1 : (wr.alloc o).grownBy w1 v.ownBlock)
    (hat : v'.ownBlock = v.ownBlock ∨ v'.ownBlock = some (wr.alloc o).heap.size) : w.grownBy w1 v0.ownBlock ∧ (v'.ownBlock = v0.ownBlock ∨ ∃ k, v'.ownBlock = some k ∧ w.heap.size ≤ k) := by
  have h1 : w.grownBy (wr.alloc o) v0.ownBlock := hg.trans (World.grownBy_alloc wr o _)
  refine ⟨⟨hg1.os.trans h1.os, hg1.tape.trans h1.tape, hg1.output.trans h1.output, Nat.le_trans h1.size hg1.size, fun i hi hne => ?_⟩, ?_⟩
  · refine (hg1.block i (Nat.lt_of_lt_of_le hi h1.size) (fun e => ?_)).trans (h1.block i hi hne)
    rcases hv with h | ⟨k, h, hk⟩
    · exact hne (e.trans h)
    · rw [h] at e
      injection e with e
      omega
  · rcases hat with h | h
    · rw [h]; exact hv
    · exact .inr ⟨_, h, by have := hg.size; simp; omega⟩

def PutRelO (base : Nat) (v0 : Value) (xs : List UInt8) (n : Nat) (w : World) (q : Nat) (v : Value) (wr : World) : Prop :=
  PutRel base xs n w q v wr ∧ w.grownBy wr v0.ownBlock ∧ (v.ownBlock = v0.ownBlock ∨ ∃ k, v.ownBlock = some k ∧ w.heap.size ≤ k)

theorem add_byte (q : Nat) : ((128 : Int) + (q : Int) % 128) = ((UInt8.ofNat (128 + q % 128)).toNat : Int) := by
  rw [toNat_byte (by omega)]
  omega
set_option maxHeartbeats 1000000 in
theorem refPut5_any (base l c : Nat) (A : Option Addr) (xs : List UInt8) (n : Nat) (w : World) (hl : xs.length = l) (hc : l ≤ c) (hn : n < 18446744073709551616) (hown : w.ownsRow base 5 1 (.slice A l c) l (u8s xs))
    (hb : base ≤ w.heap.size) (hlen : l ≤ 1000000) : Calls Try.prog 8 #[.slice A l c, .int .u64 (n : Int)] w (RetO base (.slice A l c) w (xs ++ pn n)) := by
  have HL := Lib.hid hl
  have HO := Lib.hid hown
  clear hl hown
  go_enter Try.func8, Try.ntmps8
  go_wp2
  go_loopw [1, 0] (fun p v wr => ∃ q : Nat, p = .int .u64 (q : Int) ∧ q < 18446744073709551616 ∧ PutRelO base (.slice A l c) xs n w q v wr) (fun p _ _ => (intOf p).toNat)
  case atStart =>
    exact ⟨n, rfl, hn, ⟨[], A, l, c, rfl, by simpa using HL.out, hc, by simpa using HO.out, by simp, Below.refl _ _⟩, World.grownBy.refl _ _, .inl rfl⟩
  case round =>
    obtain ⟨q, rfl, hq, ⟨ys, A', l', c', rfl, hll, hc', hown', hv, hbel⟩, hgo, hvo⟩ := hrel
    have HGO := Lib.hid hgo
    have HVO := Lib.hid hvo
    clear hgo hvo
    have HLL := Lib.hid hll
    have HV := Lib.hid hv
    have HOW := Lib.hid hown'
    clear hv hown' hll
    by_cases h0 : 128 ≤ q
    · have hor := add_byte q
      obtain ⟨d, hd⟩ : ∃ d, UInt8.ofNat (128 + q % 128) = d := ⟨_, rfl⟩
      rw [hd] at hor
      have HD := Lib.hid hd
      clear hd
      go_wp2_with (at_builtin; go_loud (refine wpList_append_u8h _ rfl (.tmp 7) (.tmp 12) 22 rfl base 5 Try.underlying22 info_b8 (.slice A' l' c') (xs ++ ys) rfl (by rw [HLL.out]; exact HOW.out.alloc _) (wr.heap.size + 1) (some ⟨wr.heap.size, 0, none⟩) 1 [d] _ rfl rfl (Rb.one _ _ _) (by have := HLL.out; have := put_len HV.out hn; simp only [List.length_append, List.length_singleton] at *; have := HL.out; omega) (by have := hbel.size; simp; omega) ?_); intro A2 n2 c2 w1 hl1 hc1 hown1 hg1 hat1)
      go_roundw
      case rel => exact ⟨q / 128, by go_num, by omega, ⟨ys ++ [d], A2, n2, c2, rfl, by rw [← List.append_assoc]; exact hl1.out, hc1, by rw [← List.append_assoc]; exact hown1.out, by rw [← HV.out, pn_big h0, HD.out]; simp, put_done hb hbel HOW.out hg1⟩, own_step HGO.out HVO.out hg1 hat1⟩
      case measure => simp [intOf]; omega
    · have hlo : (q : Int) = ((UInt8.ofNat q).toNat : Int) := (toNat_byte (by omega)).symm
      obtain ⟨d, hd⟩ : ∃ d, UInt8.ofNat q = d := ⟨_, rfl⟩
      rw [hd] at hlo
      have HD := Lib.hid hd
      have HLO := Lib.hid hlo
      clear hd hlo
      go_wp2_with (at_builtin; go_loud (refine wpList_append_u8h _ rfl (.tmp 16) (.tmp 19) 22 rfl base 5 Try.underlying22 info_b8 (.slice A' l' c') (xs ++ ys) rfl (by rw [HLL.out]; exact HOW.out.alloc _) (wr.heap.size + 1) (some ⟨wr.heap.size, 0, none⟩) 1 [d] _ rfl rfl (by rw [HLO.out]; exact Rb.one _ _ _) (by have := HLL.out; have := put_len HV.out hn; simp only [List.length_append, List.length_singleton] at *; have := HL.out; omega) (by have := hbel.size; simp; omega) ?_); intro A2 n2 c2 w1 hl1 hc1 hown1 hg1 hat1)
      go_ret
      exact ⟨A2, n2, c2, rfl, by rw [← HV.out, pn_small (by omega), HD.out, ← List.append_assoc]; exact hl1.out, hc1, by rw [← HV.out, pn_small (by omega), HD.out, ← List.append_assoc]; exact hown1.out, put_done hb hbel HOW.out hg1, own_step HGO.out HVO.out hg1 hat1⟩
end Go.Proofs.Ytbogejpjnbdfcaa
