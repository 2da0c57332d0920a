/-
  The document's numbers, in digits: Back.
-/
import Derived.Test.YtcanahjilfnijaaMF
namespace Go.Proofs.Ytcanahjilfnijaa
open Go.RowKit

set_option maxHeartbeats 800000 in
theorem back_no (A : Option Addr) (n c : Nat) (w : World) (hn : 8 < n) :
    Calls Try.prog 19 #[.agg #[.slice A n c]] w fun e w' => e = .returned (.tuple #[.agg #[.int .u64 0, .int .u64 0], .bool false]) ∧ Below w.heap.size w w' := by
  have hB : Below w.heap.size w ((w.alloc (.cells #[.slice A n c] 36)).alloc (.cells #[.int .u64 0, .int .u64 0] 50)) := ((Below.refl _ _).alloc (Nat.le_refl _) _).alloc (by simp) _
  go_enter Try.func19, Try.ntmps19
  go_wp2_with fail
  exact bodyPost_ret (v := .tuple #[.agg #[.int .u64 0, .int .u64 0], .bool false]) (by simp [results, Try.results19, go_sem]) rfl ⟨rfl, hB⟩

theorem box_back {w w1 : World} {x : Value} (hb : Below ((w.alloc (.cells #[x] 36)).alloc (.cells #[.int .u64 0, .int .u64 0] 50)).heap.size ((w.alloc (.cells #[x] 36)).alloc (.cells #[.int .u64 0, .int .u64 0] 50)) w1) :
    Below w.heap.size w w1 ∧ Blk w1 (w.heap.size + 1) 50 #[.int .u64 0, .int .u64 0] := by
  have h2 : Below w.heap.size w ((w.alloc (.cells #[x] 36)).alloc (.cells #[.int .u64 0, .int .u64 0] 50)) := ((Below.refl _ _).alloc (Nat.le_refl _) _).alloc (by simp) _
  refine ⟨h2.trans (hb.mono (by simp; omega)), ?_⟩
  have h := Blk.new (w.alloc (.cells #[x] 36)) 50 #[.int .u64 0, .int .u64 0]
  have := h.below hb (by simp)
  simpa using this

theorem rd_two {w : World} {A : Option Addr} {xs : List Nat} {x : Value} (h : Rd w w.heap.size A xs) :
    Rd ((w.alloc (.cells #[x] 36)).alloc (.cells #[.int .u64 0, .int .u64 0] 50)) ((w.alloc (.cells #[x] 36)).alloc (.cells #[.int .u64 0, .int .u64 0] 50)).heap.size A xs :=
  ((h.alloc (Nat.le_refl _) _).alloc (by simp) _).more (by simp; omega)

set_option maxHeartbeats 800000 in
theorem back_any (A : Option Addr) (xs : List Nat) (n c : Nat) (w : World) (hl : xs.length = n) (hr : Rd w w.heap.size A xs) (hd : Dig xs) (hn : n ≤ 8) (hc : n ≤ c) :
    Calls Try.prog 19 #[.agg #[.slice A n c]] w fun e w' =>
      e = .returned (.tuple #[.agg #[.int .u64 ((V (xs.drop 4) : Nat) : Int), .int .u64 ((V (xs.take 4) : Nat) : Int)], .bool true]) ∧ Below w.heap.size w w' := by
  have HL := Lib.hid hl
  clear hl
  by_cases h4 : 4 < n
  · obtain ⟨b, o, rfl, hb, _⟩ := hr.at_ (k := 0) (by have := HL.out; omega)
    have HR1 := Lib.hid (rd_two (x := .slice (some ⟨b, o, none⟩) n c) (hr.take 4))
    have HR2 := Lib.hid (hr.drop 4)
    have HL1 : Hid ((xs.take 4).length = 4) := Lib.hid (by have := HL.out; simp; omega)
    have HL2 : Hid ((xs.drop 4).length = n - 4) := Lib.hid (by have := HL.out; simp; omega)
    have hc4 : 4 < c := by omega
    have hc' : ¬ c = 4 := by omega
    go_enter Try.func19, Try.ntmps19
    go_wp2_with fail
    refine (word_any (some ⟨b, o, none⟩) (xs.take 4) 4 c _ HL1.out HR1.out (hd.take 4) (by omega)).mono ?_
    rintro e w1 ⟨rfl, hb1⟩
    obtain ⟨hB1, hblk1⟩ := box_back hb1
    have HR3 := Lib.hid ((HR2.out.below hB1 (Nat.le_refl _)).more hB1.size)
    clear hb1
    go_wp2_with fail
    refine (word_any _ (xs.drop 4) (n - 4) _ _ HL2.out HR3.out (hd.drop 4) (by omega)).mono ?_
    rintro e w2 ⟨rfl, hb2⟩
    have hblk2 := hblk1.below hb2 hblk1.lt
    have hB2 := hB1.trans (hb2.mono hB1.size)
    have hcell := hblk2.cell 0
    have hcell1 := hblk2.cell 1
    have hfro := hblk2.frozen 0
    have hfro1 := hblk2.frozen 1
    go_wp2_with fail
    exact bodyPost_ret (v := .tuple #[.agg #[.int .u64 ((V (xs.drop 4) : Nat) : Int), .int .u64 ((V (xs.take 4) : Nat) : Int)], .bool true]) (by simp [results, Try.results19, go_sem, hcell, hcell1, hfro, hfro1]) rfl
      ⟨rfl, (hB2.setCell (p := ⟨w.heap.size + 1, 0, none⟩) (by simp) _).setCell (p := ⟨w.heap.size + 1, 1, none⟩) (by simp) _⟩
  · have HR1 := Lib.hid (rd_two (x := .slice A n c) hr)
    have HD : Hid (V (xs.drop 4) = V []) := Lib.hid (by rw [List.drop_eq_nil_of_le (by have := HL.out; omega)])
    have HT : Hid (V (xs.take 4) = V xs) := Lib.hid (by rw [List.take_of_length_le (by have := HL.out; omega)])
    go_enter Try.func19, Try.ntmps19
    go_wp2_with fail
    refine (word_any A xs n c _ HL.out HR1.out hd (by omega)).mono ?_
    rintro e w1 ⟨rfl, hb1⟩
    obtain ⟨hB1, hblk1⟩ := box_back hb1
    clear hb1
    go_wp2_with fail
    refine (word_any none [] 0 0 _ rfl (Rd.nil _ _ _) Dig.nil (by omega)).mono ?_
    rintro e w2 ⟨rfl, hb2⟩
    have hblk2 := hblk1.below hb2 hblk1.lt
    have hB2 := hB1.trans (hb2.mono hB1.size)
    have hcell := hblk2.cell 0
    have hcell1 := hblk2.cell 1
    have hfro := hblk2.frozen 0
    have hfro1 := hblk2.frozen 1
    go_wp2_with fail
    rw [HD.out, HT.out]
    exact bodyPost_ret (v := .tuple #[.agg #[.int .u64 ((V [] : Nat) : Int), .int .u64 ((V xs : Nat) : Int)], .bool true]) (by simp [results, Try.results19, go_sem, hcell, hcell1, hfro, hfro1]) rfl
      ⟨rfl, (hB2.setCell (p := ⟨w.heap.size + 1, 0, none⟩) (by simp) _).setCell (p := ⟨w.heap.size + 1, 1, none⟩) (by simp) _⟩
end Go.Proofs.Ytcanahjilfnijaa
