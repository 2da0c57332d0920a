/-
  Lines: the number of a text: the program's.
-/
import Derived.Test.YtbhdibeiojeadaaDoorDecW
import Derived.Test.YtbhdibeiojeadaaDoorNatN
import Derived.Test.YtbhdibeiojeadaaDoorMemV
import Derived.Lib.AtoiErrMem
namespace Go.Proofs.YtbhdibeiojeadaaDoor
open Go.RowKit
set_option maxRecDepth 100000

/-- What the library reads of its own variables. -/
structure LibV (w : World) : Prop where
  tab : Tab w
  es : ∃ ev, w.cell? ⟨0, 0, none⟩ = some ev ∧ (ev = .nilIface ∨ ∃ te pe, ev = .iface te pe)
  er : ∃ ev, w.cell? ⟨1, 0, none⟩ = some ev ∧ (ev = .nilIface ∨ ∃ te pe, ev = .iface te pe)
  ml : ∃ m, w.cell? ⟨3, 0, none⟩ = some (.int .i64 m)
theorem LibV.below {w w' : World} (h : LibV w) (hb : Below w.heap.size w w') : LibV w' := by
  obtain ⟨e1, h1, k1⟩ := h.es
  obtain ⟨e2, h2, k2⟩ := h.er
  obtain ⟨m, h3⟩ := h.ml
  exact ⟨h.tab.below hb, ⟨e1, (hb.cell (World.block_lt_of_cell? _ _ h1)).trans h1, k1⟩, ⟨e2, (hb.cell (World.block_lt_of_cell? _ _ h2)).trans h2, k2⟩, ⟨m, (hb.cell (World.block_lt_of_cell? _ _ h3)).trans h3⟩⟩

theorem atoi_yes (s : ByteArray) (z : Int) (w : World) (hs : s.size ≤ 281474976710656) (h : Lib.atoiAll s.data.toList = .ok z) :
    Calls Tryd.prog 22 #[.string s] w fun e w' => e = .returned (.tuple #[.int .i64 z, .nilIface]) ∧ Below w.heap.size w w' := by
  refine (Tryd.strconv_Atoi_ok s (by omega) z h w).mono ?_
  rintro e w' ⟨rfl, rfl | ⟨t, rfl⟩⟩
  · exact ⟨rfl, Below.refl _ _⟩
  · exact ⟨rfl, Lib.bytesWorld_below _ _ _⟩
theorem atoi_no (s : ByteArray) (w : World) (hs : s.size ≤ 281474976710656) (h : ∀ z, Lib.atoiAll s.data.toList ≠ .ok z) (hv : LibV w) :
    Calls Tryd.prog 22 #[.string s] w fun e w' => ∃ z t p, e = .returned (.tuple #[.int .i64 z, .iface t p]) ∧ Below w.heap.size w w' := by
  obtain ⟨e1, h1, k1⟩ := hv.es
  obtain ⟨e2, h2, k2⟩ := hv.er
  cases hq : Lib.atoiAll s.data.toList with
  | ok z => exact absurd hq (h z)
  | range =>
    refine (Tryd.strconv_Atoi_range s hs hq e2 w h2 k2).mono ?_
    rintro e w' ⟨N, rfl, _, _, hb⟩
    exact ⟨_, _, _, rfl, hb⟩
  | _ =>
    refine (Any.strconv_Atoi_syntax Tryd.laysC172 s hs hq e1 w h1 k1).mono ?_
    rintro e w' ⟨N, rfl, _, _, hb⟩
    exact ⟨_, _, _, rfl, hb⟩
theorem puint_yes (s : ByteArray) (n : Nat) (w : World) (hs : s.size ≤ 281474976710656) (h : Lib.parseUintB 64 s.data.toList = .ok n) :
    Calls Tryd.prog 24 #[.string s, .int .i64 10, .int .i64 64] w fun e w' => e = .returned (.tuple #[.int .u64 (n : Int), .nilIface]) ∧ Below w.heap.size w w' := by
  refine (Tryd.strconv_ParseUint_10_at64_ok s (by omega) n h w).mono ?_
  rintro e w' ⟨rfl, rfl | ⟨t, rfl⟩⟩
  · exact ⟨rfl, Below.refl _ _⟩
  · exact ⟨rfl, Lib.bytesWorld_below _ _ _⟩
theorem puint_no (s : ByteArray) (w : World) (hs : s.size ≤ 281474976710656) (h : ∀ n, Lib.parseUintB 64 s.data.toList ≠ .ok n) (hv : LibV w) :
    Calls Tryd.prog 24 #[.string s, .int .i64 10, .int .i64 64] w fun e w' => ∃ z t p, e = .returned (.tuple #[.int .u64 z, .iface t p]) ∧ Below w.heap.size w w' := by
  obtain ⟨e1, h1, k1⟩ := hv.es
  obtain ⟨e2, h2, k2⟩ := hv.er
  cases hq : Lib.parseUintB 64 s.data.toList with
  | ok z => exact absurd hq (h z)
  | range =>
    refine (Tryd.strconv_ParseUint_10_at64_range s hs hq e2 w h2 k2).mono ?_
    rintro e w' ⟨N, rfl, _, _, hb⟩
    exact ⟨_, _, _, rfl, hb⟩
  | _ =>
    refine (Any.strconv_ParseUint_10_at64_syntax Tryd.laysPu14 s hs hq e1 w h1 k1).mono ?_
    rintro e w' ⟨N, rfl, _, _, hb⟩
    exact ⟨_, _, _, rfl, hb⟩
theorem itoa_any (z : Int) (w : World) (h0 : -9223372036854775808 ≤ z) (h1 : z ≤ 9223372036854775807) (ht : Tab w) :
    Calls Tryd.prog 23 #[.int .i64 z] w fun e w' => e = .returned (.string ⟨(Lib.itoa z).toArray⟩) ∧ Below w.heap.size w w' := by
  refine (Tryd.strconv_Itoa z h0 h1 w ht).mono ?_
  rintro e w' ⟨rfl, k, os, rfl⟩
  exact ⟨rfl, Lib.below_grow _ _ (Nat.le_refl _) k os⟩
set_option maxHeartbeats 1000000 in
theorem fuint_any (n : Nat) (w : World) (hn : n < 18446744073709551616) (ht : Tab w) :
    Calls Tryd.prog 25 #[.int .u64 (n : Int), .int .i64 10] w fun e w' => e = .returned (.string ⟨(Lib.decDigits n).toArray⟩) ∧ Below w.heap.size w w' := by
  by_cases h : 100 ≤ n
  · exact formatUint_any n h hn w ht
  · have hi : n < 100 := by omega
    have hi2 : (n : Int) < 100 := by omega
    go_enter Tryd.func25, Tryd.ntmps25
    go_wp2_with (first
      | (go_at_call 51; refine (Tryd.internal_strconv_small n hi _).mono ?_; rintro e w' ⟨rfl, rfl⟩)
      | go_in)
    go_ret
    exact ⟨rfl, Below.refl _ _⟩
end Go.Proofs.YtbhdibeiojeadaaDoor
