/-
  The document's numbers, in digits: Wide.
-/
import Derived.Test.YtgfpkiojbkldiaaOf
namespace Go.Proofs.Ytgfpkiojbkldiaa
open Go.RowKit

def lows (lo : Nat) : List Nat := [lo % 65536, lo / 65536 % 65536, lo / 4294967296 % 65536, lo / 281474976710656]
theorem lows_dig {lo : Nat} (h : lo < 18446744073709551616) : Dig (lows lo) := by
  intro d hd
  simp only [lows, List.mem_cons, List.not_mem_nil, or_false] at hd
  rcases hd with h | h | h | h <;> omega
theorem lows_V (lo : Nat) : V (lows lo) = lo := by simp only [lows, V]; omega

theorem wide_after {w w1 : World} {hi lo : Nat} (hb1 : Below (((w.alloc (.cells #[.int .u64 (hi : Int), .int .u64 (lo : Int)] 30)).alloc (.cells #[.slice none 0 0] 25)).alloc
      (.cells #[.int .i64 ((lo : Int) % 65536), .int .i64 ((lo : Int) / 65536 % 65536), .int .i64 ((lo : Int) / 4294967296 % 65536), .int .i64 ((lo : Int) / 281474976710656)] 3)).heap.size
    (((w.alloc (.cells #[.int .u64 (hi : Int), .int .u64 (lo : Int)] 30)).alloc (.cells #[.slice none 0 0] 25)).alloc
      (.cells #[.int .i64 ((lo : Int) % 65536), .int .i64 ((lo : Int) / 65536 % 65536), .int .i64 ((lo : Int) / 4294967296 % 65536), .int .i64 ((lo : Int) / 281474976710656)] 3)) w1) :
    Below w.heap.size w w1 ∧ w.heap.size + 3 ≤ w1.heap.size ∧ Blk w1 (w.heap.size + 1) 25 #[.slice none 0 0] ∧
      w1.ownsRow (w.heap.size + 2) 3 1 (.slice (some ⟨w.heap.size + 1 + 1, 0, none⟩) 4 4) 4 (ints (lows lo)) := by
  refine ⟨?_, ?_, ?_, ?_⟩
  · exact ((((Below.refl _ _).alloc (Nat.le_refl _) _).alloc (by simp) _).alloc (by simp; omega) _).trans (hb1.mono (by simp; omega))
  · have := hb1.size; simp at this; omega
  · have h := Blk.new (w.alloc (.cells #[.int .u64 (hi : Int), .int .u64 (lo : Int)] 30)) 25 #[.slice none 0 0]
    have := (h.alloc _).below hb1 (by simp)
    simpa using this
  · have h := owns_lit ((w.alloc (.cells #[.int .u64 (hi : Int), .int .u64 (lo : Int)] 30)).alloc (.cells #[.slice none 0 0] 25)) (w.heap.size + 2) 3 (lows lo) (by simp) (by simp [lows, maxLen])
    have := owns_below h hb1 (by simp)
    simpa [lows] using this

theorem wide_done {w w1 w2 w3 : World} {a : Nat} {v : Value} {xs1 : List Nat} {lo : Nat} {u : Value} (hb : Below w.heap.size w w1) (hs : w.heap.size + 3 ≤ w1.heap.size)
    (hg : w1.grownBy w2 (Value.slice (some ⟨w.heap.size + 1 + 1, 0, none⟩) 4 4).ownBlock) (hb3 : Below w2.heap.size w2 w3) (hn : Num w3 w2.heap.size v (V (lows lo ++ xs1)))
    (ha : V (lows lo ++ xs1) = a) : RetNum w a (.returned v) (w3.setCell ⟨w.heap.size + 1, 0, none⟩ u) := by
  have h2 : Below w.heap.size w w2 := hb.grown hg (by omega) (by intro k hk; simp [Value.ownBlock] at hk; omega)
  have hsz := hg.size
  refine ⟨v, rfl, ?_, (h2.trans (hb3.mono (by have := h2.size; omega))).setCell (by simp) _⟩
  rw [← ha]
  exact (hn.old (by simp; omega) _).more h2.size

set_option maxHeartbeats 400000 in
theorem wide_any (hi lo : Nat) (w : World) (h1 : hi < 18446744073709551616) (h2 : lo < 18446744073709551616) :
    Calls Try.prog 17 #[.agg #[.int .u64 (hi : Int), .int .u64 (lo : Int)]] w (RetNum w (hi * 18446744073709551616 + lo)) := by
  have hd := lows_dig h2
  have hfield := field_D
  go_enter Try.func17, Try.ntmps17
  go_wp2_with fail
  refine (of_any hi _ h1).mono ?_
  rintro e w1 ⟨v, rfl, ⟨A1, xs1, n1, c1, rfl, hl1, hc1, hr1, hf1, hcan1, hv1⟩, hb1⟩
  have HV := Lib.hid hv1
  have HL1 := Lib.hid hl1
  obtain ⟨hb, hs, hblk, hown⟩ := wide_after hb1
  have hlen : n1 ≤ 4 := by have := hcan1.len (k := 4) (by omega); omega
  have hfin : V (lows lo ++ xs1) = hi * 18446744073709551616 + lo := by
    rw [V_append, lows_V, show (lows lo).length = 4 from rfl, HV.out]; omega
  have HF := Lib.hid hfin
  clear hl1 hv1 hfin hf1 hb1
  go_wp2_with (at_builtin; go_loud (refine wpList_append_ints _ rfl (.tmp 23) (.tmp 27) 23 rfl (w.heap.size + 2) 3 Try.underlying23 info_int (.slice (some ⟨w.heap.size + 1 + 1, 0, none⟩) 4 4) (lows lo) rfl hown w1.heap.size A1 n1 xs1 _ HL1.out rfl hr1 (by have := HL1.out; simp [lows]; omega) (by omega) ?_); intro A' n' c' w2 hl2 hc2 hown2 hg2)
  refine (cut_any A' (lows lo ++ xs1) n' c' w2 hl2.out (Rd.of_own hown2.out) ?_ ?_ hc2).mono ?_
  · intro d hd'
    rcases List.mem_append.1 hd' with h | h
    · exact hd d h
    · exact hcan1.1 d h
  · have h1 := hl2.out; have h2 := HL1.out; simp [lows] at h1; omega
  rintro e w3 ⟨v, rfl, hn3, hb3⟩
  obtain ⟨A3, n3, c3, rfl⟩ := hn3.shape
  have hblk3 := (hblk.grown hg2 (by simp [Value.ownBlock])).below hb3 (by have := hg2.size; omega)
  have hcell := hblk3.cell 0
  have hfro := hblk3.frozen 0
  have HN := Lib.hid hn3
  clear hn3
  go_wp2_with fail
  exact bodyPost_ret (v := .agg #[.slice A3 n3 c3]) (by simp [results, Try.results17, go_sem, hcell, hfro]) rfl (wide_done hb hs hg2 hb3 HN.out HF.out)
end Go.Proofs.Ytgfpkiojbkldiaa
