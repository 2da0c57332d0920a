/-
  The document's numbers, in digits: Cut.
-/
import Derived.Test.YtnaofoahnjceiaaDoorProg
import Derived.Test.YtnaofoahnjceiaaDoorNum
import Derived.Outline
import Derived.LoopTactic
import Derived.ProofKit
namespace Go.Proofs.YtnaofoahnjceiaaDoor
open Go.RowKit

theorem info_int : (Tryd.prog.info? 3).map (fun i => (i.zero, i.size, i.bytes)) = some (some (.int .i64 0), 1, 8) := by kernel_rfl

/-- The field D of a number. -/
theorem field_D : ∀ (A : Option Addr) (n c : Nat) (w : World), (Instr.field 28 (.agg #[.slice A n c]) 0).run Tryd.prog w = .ok (.slice A n c) w := fun _ _ _ _ => by kernel_rfl

/-- v is the document's number a, in canonical digits, in world w; its digits lie from block L on. -/
def Num (w : World) (L : Nat) (v : Value) (a : Nat) : Prop := ∃ A xs n c, v = .agg #[.slice A n c] ∧ xs.length = n ∧ n ≤ c ∧ Rd w w.heap.size A xs ∧ Fr L A xs ∧ Can xs ∧ V xs = a
theorem setCell_size (w : World) (p : Addr) (u : Value) : (w.setCell p u).heap.size = w.heap.size := by simp [World.setCell]
theorem Num.old {w : World} {L : Nat} {v : Value} {a : Nat} (h : Num w L v a) {p : Addr} (hp : p.block < L) (u : Value) : Num (w.setCell p u) L v a := by
  obtain ⟨A, xs, n, c, h1, hl, h2, h3, h4, h5⟩ := h
  exact ⟨A, xs, n, c, h1, hl, h2, by rw [setCell_size]; exact h3.old h4 hp u, h4, h5⟩
theorem Num.more {w : World} {L L' : Nat} {v : Value} {a : Nat} (h : Num w L v a) (hL : L' ≤ L) : Num w L' v a := by
  obtain ⟨A, xs, n, c, h1, hl, h2, h3, h4, h5⟩ := h
  exact ⟨A, xs, n, c, h1, hl, h2, h3, h4.more hL, h5⟩
theorem Num.below {w w' : World} {L : Nat} {v : Value} {a : Nat} (h : Num w L v a) (hb : Below w.heap.size w w') : Num w' L v a := by
  obtain ⟨A, xs, n, c, h1, hl, h2, h3, h4, h5⟩ := h
  exact ⟨A, xs, n, c, h1, hl, h2, (h3.below hb (Nat.le_refl _)).more hb.size, h4, h5⟩
theorem Num.alloc {w : World} {L : Nat} {v : Value} {a : Nat} (h : Num w L v a) (o : Obj) : Num (w.alloc o) L v a := h.below ((Below.refl _ _).alloc (Nat.le_refl _) _)
/-- The number of digits of a small number. -/
theorem Num.form {w : World} {L : Nat} {v : Value} {a : Nat} (h : Num w L v a) {k : Nat} (hk : a < 65536 ^ k) :
    ∃ A xs n c, v = .agg #[.slice A n c] ∧ Hid (xs.length = n) ∧ n ≤ c ∧ Rd w w.heap.size A xs ∧ Can xs ∧ Hid (V xs = a) ∧ n ≤ k := by
  obtain ⟨A, xs, n, c, h1, hl, h2, h3, h4, h5, h6⟩ := h
  exact ⟨A, xs, n, c, h1, hl, h2, h3, h5, h6, by have := h5.len (k := k) (by omega); omega⟩
theorem Num.shape {w : World} {L : Nat} {v : Value} {a : Nat} (h : Num w L v a) : ∃ A n c, v = .agg #[.slice A n c] := by
  obtain ⟨A, xs, n, c, h1, _⟩ := h
  exact ⟨A, n, c, h1⟩
/-- What a function answers that makes the number a: all that was there is as it was. -/
def RetNum (w : World) (a : Nat) (e : Ending) (w' : World) : Prop := ∃ v, e = .returned v ∧ Num w' w.heap.size v a ∧ Below w.heap.size w w'

theorem cut_done {w w1 : World} {A' : Option Addr} {c' n' n : Nat} {xs : List Nat} {u : Value} (hl : ([] ++ xs.take n).length = n') (hc : n' ≤ c')
    (hown : w1.ownsRow (w.heap.size + 1) 3 1 (.slice A' n' c') n' (ints ([] ++ xs.take n)))
    (hg : ((w.alloc (.cells #[.slice none 0 0] 28)).alloc (.cells #[] 3)).grownBy w1 (Value.slice (some ⟨w.heap.size + 1, 0, none⟩) 0 0).ownBlock)
    (hcan : Can (xs.take n)) (hv : V (xs.take n) = V xs) :
    RetNum w (V xs) (.returned (.agg #[.slice A' n' c'])) (w1.setCell ⟨w.heap.size, 0, none⟩ u) := by
  rw [List.nil_append] at hown hl
  refine ⟨_, rfl, ⟨A', xs.take n, n', c', rfl, hl, hc, ?_, ?_, hcan, hv⟩, ?_⟩
  · exact Rd.of_own_set hown (by simp) _
  · exact (Fr.of_own hown).more (by omega)
  · refine Below.setCell ?_ (by simp) _
    exact (((Below.refl _ _).alloc (Nat.le_refl _) _).alloc (by simp) _).grown hg (by simp; omega) (by intro k hk; simp [Value.ownBlock] at hk; omega)

theorem cut_blk {w w1 : World} (hg : ((w.alloc (.cells #[.slice none 0 0] 28)).alloc (.cells #[] 3)).grownBy w1 (Value.slice (some ⟨w.heap.size + 1, 0, none⟩) 0 0).ownBlock) :
    w1.cell? ⟨w.heap.size, 0, none⟩ = some (.slice none 0 0) ∧ w1.frozen? ⟨w.heap.size, 0, none⟩ = false := by
  have h := ((Blk.new w 28 #[.slice none 0 0]).alloc (.cells #[] 3)).grown hg (by simp [Value.ownBlock])
  exact ⟨h.cell 0, h.frozen 0⟩

set_option maxHeartbeats 400000 in
theorem cut_any (A : Option Addr) (xs : List Nat) (l c : Nat) (w : World) (hll : xs.length = l) (hr : Rd w w.heap.size A xs) (hd : Dig xs) (hn : l ≤ 1000000) (hc : l ≤ c) :
    Calls Tryd.prog 35 #[.slice A l c] w (RetNum w (V xs)) := by
  have HLL := Lib.hid hll
  clear hll
  go_enter Tryd.func35, Tryd.ntmps35
  go_wp2
  go_loop [3] (fun v => ∃ n : Nat, n ≤ l ∧ v = .int .i64 n ∧ ∀ j, n ≤ j → nth xs j = 0) (fun v => (intOf v).toNat)
  case atStart => exact ⟨_, Nat.le_refl _, rfl, fun j hj => nth_out (by have := HLL.out; omega)⟩
  case round =>
    obtain ⟨n, hnl, rfl, hz⟩ := hrel
    have HZ := Lib.hid hz
    clear hz
    have HL : Hid ((xs.take n).length = n) := Lib.hid (by have := HLL.out; simp; omega)
    have hr2 := (hr.alloc (Nat.le_refl _) (.cells #[.slice none 0 0] 28)).alloc (by simp) (.cells #[] 3)
    have HR := Lib.hid (hr2.take n)
    have HO : Hid (((w.alloc (.cells #[.slice none 0 0] 28)).alloc (.cells #[] 3)).ownsRow (w.heap.size + 1) 3 1 (.slice (some ⟨w.heap.size + 1, 0, none⟩) 0 0) ([] : List Nat).length (ints [])) :=
      Lib.hid (by have := World.ownsRow_made (base := w.heap.size + 1) (e := 3) (size := 1) (w.alloc (.cells #[.slice none 0 0] 28)) #[] 0 (by simp) (by decide) rfl; simpa [ints] using this)
    clear hr2
    have HV : Hid (V (xs.take n) = V xs) := Lib.hid (V_zeros xs n HZ.out)
    by_cases hpos : 0 < n
    · obtain ⟨m, rfl⟩ : ∃ m, n = m + 1 := ⟨n - 1, by omega⟩
      obtain ⟨b, o, hA, hb, hcm⟩ := hr.at_ (k := m) (by have := HLL.out; omega)
      subst hA
      by_cases h0 : nth xs m = 0
      · have h0' : (((nth xs m : Nat) : Int) == 0) = true := by simp [h0]
        have H0 := Lib.hid h0
        clear h0
        go_wp2
        go_round
        case rel =>
          refine ⟨m, by omega, by go_num, fun j hj => ?_⟩
          rcases Nat.lt_or_ge m j with h | h
          · exact HZ.out j h
          · rw [show j = m by omega]; exact H0.out
        case measure => simp [intOf]
      · have h0' : (((nth xs m : Nat) : Int) == 0) = false := by simp [h0]
        have HC : Hid (Can (xs.take (m + 1))) := Lib.hid (Can.of_take hd (by have := HLL.out; omega) (fun _ => by simpa using h0))
        clear h0 HZ
        go_wp2_with (at_builtin; go_loud (refine wpList_append_ints _ rfl (.tmp 18) (.tmp 21) 26 rfl (w.heap.size + 1) 3 Tryd.underlying26 info_int (.slice (some ⟨w.heap.size + 1, 0, none⟩) 0 0) [] rfl HO.out w.heap.size (some ⟨b, o, none⟩) (m + 1) (xs.take (m + 1)) _ HL.out rfl HR.out (by have := HLL.out; simp; omega) (by simp) ?_); intro A' n' c' w1 hl1 hc1 hown1 hg1; obtain ⟨hcell, hfro⟩ := cut_blk hg1)
        exact bodyPost_ret (v := .agg #[.slice A' n' c']) (by simp [results, Tryd.results35, go_sem, hcell, hfro]) rfl (cut_done hl1.out hc1 hown1.out hg1 HC.out HV.out)
    · obtain rfl : n = 0 := by omega
      have HC : Hid (Can (xs.take 0)) := Lib.hid Can.nil
      clear HZ
      go_wp2_with (at_builtin; go_loud (refine wpList_append_ints _ rfl (.tmp 18) (.tmp 21) 26 rfl (w.heap.size + 1) 3 Tryd.underlying26 info_int (.slice (some ⟨w.heap.size + 1, 0, none⟩) 0 0) [] rfl HO.out w.heap.size A 0 (xs.take 0) _ HL.out rfl HR.out (by simp) (by simp) ?_); intro A' n' c' w1 hl1 hc1 hown1 hg1; obtain ⟨hcell, hfro⟩ := cut_blk hg1)
      exact bodyPost_ret (v := .agg #[.slice A' n' c']) (by simp [results, Tryd.results35, go_sem, hcell, hfro]) rfl (cut_done hl1.out hc1 hown1.out hg1 HC.out HV.out)
end Go.Proofs.YtnaofoahnjceiaaDoor
