/-
  Alias tables: package alias's last, enlist.
-/
import Derived.Test.YtcanahjilfnijaaAliE
namespace Go.Proofs.Ytcanahjilfnijaa
open Go.RowKit
set_option maxRecDepth 100000

theorem info_int12 : (Try.prog.info? 3).map (fun i => (i.zero, i.size, i.bytes)) = some (some (.int .i64 0), 1, 8) := by kernel_rfl
theorem own12_some {w : World} {base : Nat} {e : TypeId} {A : Option Addr} {cc m : Nat} {vs : List Value} (h : w.ownsRow base e 1 (.slice A (m + 1) cc) (m + 1) vs) : ∃ r, A = some ⟨r, 0, none⟩ ∧ m + 1 ≤ cc := by
  rcases h.2 with ⟨h0, _⟩ | ⟨r, cap, cur, hv, _, _, hn, _⟩
  · cases h0
  · injection hv with h1 h2 h3
    subst h3
    exact ⟨r, h1, hn⟩
theorem own12_last {w : World} {base : Nat} {e : TypeId} {r cc m : Nat} {xs : List Nat} {a : Nat} (h : w.ownsRow base e 1 (.slice (some ⟨r, 0, none⟩) (m + 1) cc) (m + 1) (ints (xs ++ [a]))) (hx : xs.length = m) : w.cell? ⟨r, m, none⟩ = some (.int .i64 (a : Int)) := by
  have h1 := h.cells (g := r) rfl m (.int .i64 (a : Int)) (by rw [ints_append, List.getElem?_append_right (by rw [ints_length]; omega), ints_length, hx, Nat.sub_self]; rfl)
  rw [Go.WideShapes.add_plain, Nat.zero_add] at h1
  exact h1

set_option maxHeartbeats 1000000 in
theorem last12_any (g f r m cc a : Nat) (w : World) (h : w.cell? ⟨g, f, none⟩ = some (.slice (some ⟨r, 0, none⟩) (m + 1) cc)) (hf : w.frozen? ⟨g, f, none⟩ = false) (hl : w.cell? ⟨r, m, none⟩ = some (.int .i64 (a : Int))) (hc : m + 1 ≤ cc) (hm : m ≤ 1000000) :
    Calls Try.prog 34 #[.pointer (some ⟨g, f, none⟩)] w fun e w' => e = .returned (.int .i64 (a : Int)) ∧ w' = w.setCell ⟨g, f, none⟩ (.slice (some ⟨r, 0, none⟩) m cc) := by
  have hw : IntKind.i64.wrap (((m + 1 : Nat) : Int) - 1) = (m : Int) := by rw [IntKind.wrap_i64]; omega
  obtain ⟨k, hk⟩ : ∃ k, m + 1 = k := ⟨_, rfl⟩
  rw [hk] at h hw hc
  have h0 : (0 : Int) ≤ (m : Int) := by omega
  have h1 : (m : Int) < (k : Int) := by omega
  have h2 : (m : Int) ≤ (cc : Int) := by omega
  clear hk
  go_enter Try.func34, Try.ntmps34
  go_wp2_with fail
  go_ret
  exact ⟨rfl, rfl⟩

section
variable {W : World} {L g gh gc n t : Nat} {h c o : Nat → Nat} {Al : Option Addr} {kl cl : Nat} {Am : Option Addr} {km cm : Nat} {ls ms : List Nat}
theorem Bd12.popl {r a : Nat} (b : Bd12 W L g gh gc n t h c o (some ⟨r, 0, none⟩) (kl + 1) cl Am km cm (ls ++ [a]) ms) :
    Bd12 (W.setCell ⟨g, 3, none⟩ (.slice (some ⟨r, 0, none⟩) kl cl)) L g gh gc n t h c o (some ⟨r, 0, none⟩) kl cl Am km cm ls ms := by
  have hl : ls.length = kl := by have := b.ll; simpa using this
  have h1 := b.lit
  rw [ints_append] at h1
  have h2 := ownsRow_pop (by rw [ints_length, hl, Nat.mul_one]) h1
  exact ⟨by simpa using b.box.set_ 3 (.slice (some ⟨r, 0, none⟩) kl cl), b.holds.far b.neh _, b.cols.far b.nec _, hl, b.lm, ownsRow_setCell_other h2 (by exact b.lneg) _, ownsRow_setCell_other b.muc (by exact b.mneg) _, b.two, b.lg, b.lh, b.lc⟩
theorem Bd12.popm {r a : Nat} (b : Bd12 W L g gh gc n t h c o Al kl cl (some ⟨r, 0, none⟩) (km + 1) cm ls (ms ++ [a])) :
    Bd12 (W.setCell ⟨g, 4, none⟩ (.slice (some ⟨r, 0, none⟩) km cm)) L g gh gc n t h c o Al kl cl (some ⟨r, 0, none⟩) km cm ls ms := by
  have hl : ms.length = km := by have := b.lm; simpa using this
  have h1 := b.muc
  rw [ints_append] at h1
  have h2 := ownsRow_pop (by rw [ints_length, hl, Nat.mul_one]) h1
  exact ⟨by simpa using b.box.set_ 4 (.slice (some ⟨r, 0, none⟩) km cm), b.holds.far b.neh _, b.cols.far b.nec _, b.ll, hl, ownsRow_setCell_other b.lit (by exact b.lneg) _, ownsRow_setCell_other h2 (by exact b.mneg) _, b.two, b.lg, b.lh, b.lc⟩
theorem Bd12.puth (b : Bd12 W L g gh gc n t h c o Al kl cl Am km cm ls ms) {k : Nat} (hk : k < n) (x : Nat) :
    Bd12 (W.setCell ⟨gh, k, none⟩ (.int .u64 (x : Int))) L g gh gc n t (upd h k x) c o Al kl cl Am km cm ls ms :=
  ⟨b.box.far (by exact fun e => b.neh e.symm) _, b.holds.put hk x, b.cols.far (by exact fun e => b.nehc e.symm) _, b.ll, b.lm, ownsRow_setCell_other b.lit (by exact b.lneh) _, ownsRow_setCell_other b.muc (by exact b.mneh) _, b.two, b.lg, b.lh, b.lc⟩
theorem Bd12.putc (b : Bd12 W L g gh gc n t h c o Al kl cl Am km cm ls ms) {k : Nat} (hk : k < n) (x y : Nat) :
    Bd12 ((W.setCell ⟨gc, k * 2, none⟩ (.int .u64 (x : Int))).setCell ⟨gc, k * 2 + 1, none⟩ (.int .i64 (y : Int))) L g gh gc n t h (upd c k x) (upd o k y) Al kl cl Am km cm ls ms :=
  ⟨(b.box.far (by exact fun e => b.nec e.symm) _).far (by exact fun e => b.nec e.symm) _, (b.holds.far (by exact b.nehc) _).far (by exact b.nehc) _, b.cols.put hk x y, b.ll, b.lm,
    ownsRow_setCell_other (ownsRow_setCell_other b.lit (by exact b.lnec) _) (by exact b.lnec) _, ownsRow_setCell_other (ownsRow_setCell_other b.muc (by exact b.mnec) _) (by exact b.mnec) _, b.two, b.lg, b.lh, b.lc⟩
end

theorem rv12_one (w : World) (d : Nat) (t : TypeId) : Rv (w.alloc (.cells #[.int .i64 (d : Int)] t)) (w.heap.size + 1) (some ⟨w.heap.size, 0, none⟩) (ints [d]) := by
  intro _
  refine ⟨w.heap.size, 0, rfl, by omega, fun k v hk => ?_⟩
  match k, hk with
  | 0, hk =>
    obtain rfl : Value.int .i64 (d : Int) = v := by simpa [ints] using hk
    exact cell_one_new w (.int .i64 (d : Int)) t 0 _ rfl
  | k + 1, hk => simp [ints] at hk

/-- What enlist leaves behind. -/
def En12 (W : World) (L g gh gc n t : Nat) (h c o : Nat → Nat) (ls ms : List Nat) : Prop := ∃ Al kl cl Am km cm, Bd12 W L g gh gc n t h c o Al kl cl Am km cm ls ms

set_option maxHeartbeats 2000000 in
theorem enlist12_any {L g gh gc n t : Nat} {h c o : Nat → Nat} {Al : Option Addr} {kl cl : Nat} {Am : Option Addr} {km cm : Nat} {ls ms : List Nat} (i : Nat) (w : World) (b : Bd12 w L g gh gc n t h c o Al kl cl Am km cm ls ms) (hL : L ≤ w.heap.size) (hi : i < n) (hn : n ≤ 1000000)
    (hlen : kl + km ≤ 1000000) :
    Calls Try.prog 33 #[.pointer (some ⟨g, 0, none⟩), .int .i64 (i : Int)] w fun e w' => e = .returned (.tuple #[]) ∧ En12 w' L g gh gc n t h c o (ls ++ if h i < t then [i] else []) (ms ++ if t < h i then [i] else []) ∧ Below L w w' := by
  have c0 := b.box.cell 0
  have c1 := b.box.cell 1
  have c3 := b.box.cell 3
  have c4 := b.box.cell 4
  have f3 := b.box.frozen 3
  have f4 := b.box.frozen 4
  have hh := (b.holds.cells hi).1
  have HE : Hid (∀ A, En12 A L g gh gc n t h c o = En12 A L g gh gc n t h c o) := Lib.hid (fun _ => rfl)
  obtain ⟨x, hx⟩ : ∃ x, h i = x := ⟨_, rfl⟩
  rw [hx] at hh ⊢
  have hi0 : (0 : Int) ≤ (i : Int) := by omega
  have hi1 : (i : Int) < (n : Int) := by omega
  have HD := Lib.hid (b.step (Below.refl w.heap.size w).drew)
  have HB := Lib.hid b
  have HX := Lib.hid hx
  clear hx b HE
  rcases (show x < t ∨ t < x ∨ x = t by omega) with hlt | hlt | rfl
  · rw [if_pos hlt, if_neg (by omega), List.append_nil]
    have hl1 : (x : Int) < (t : Int) := by omega
    have hl2 : ¬ (t : Int) < (x : Int) := by omega
    have HO := Lib.hid (own7_keep HD.out.lit (b1' w.drew (.cells #[.int .i64 (i : Int)] 3)))
    go_enter Try.func33, Try.ntmps33
    go_wp2_with fail
    go_region
    clear hh c0 c1
    go_wp2_with (at_builtin; go_loud (refine wpList_append_rv _ rfl (.tmp 20) (.tmp 22) 34 rfl L 3 (.int .i64 0) 8 Try.underlying34 info_int12 rfl (by omega) (.slice Al kl cl) kl (ints ls) rfl HO.out (w.drew.heap.size + 1) (some ⟨w.drew.heap.size, 0, none⟩) 1 (ints [i]) _ rfl rfl (rv12_one w.drew i 3) (ints_one [i]) (by omega) (by simp; omega) ?_); intro A' c' w3 hc3 hown3 hg3 hbl3; obtain ⟨hB3, hBW3, hbx3⟩ := HD.out.pushl (by simp; omega) hg3 hown3.out hbl3; have HBW3 := Lib.hid hBW3; have d3 := hbx3.cell 3; have e3 := hbx3.frozen 3; obtain ⟨w4, hw4⟩ : ∃ w4, w3.setCell ⟨g, 3, none⟩ (.slice A' (kl + 1) c') = w4 := ⟨_, rfl⟩; rw [hw4] at hB3 HBW3; have c0 := hB3.box.cell 0; have c1 := hB3.box.cell 1; have hh := (hB3.holds.cells hi).1; rw [HX.out] at hh; have HB4 := Lib.hid hB3; clear hown3 hg3 hbl3 hBW3 hbx3 hB3)
    go_region
    go_wp2_with fail
    go_end0
    exact ⟨rfl, ⟨_, _, _, _, _, _, HB4.out.step (Below.refl _ _).drew⟩, ((Below.refl L w).drew.trans HBW3.out).drew⟩
  · rw [if_neg (by omega), if_pos hlt, List.append_nil]
    have hl1 : ¬ (x : Int) < (t : Int) := by omega
    have hl2 : (t : Int) < (x : Int) := by omega
    have HD := Lib.hid (HD.out.step (Below.refl _ _).drew)
    have HO := Lib.hid (own7_keep HD.out.muc (b1' w.drew.drew (.cells #[.int .i64 (i : Int)] 3)))
    go_enter Try.func33, Try.ntmps33
    go_wp2_with fail
    go_region
    go_wp2_with fail
    go_region
    clear hh c0 c1
    go_wp2_with (at_builtin; go_loud (refine wpList_append_rv _ rfl (.tmp 42) (.tmp 44) 34 rfl L 3 (.int .i64 0) 8 Try.underlying34 info_int12 rfl (by omega) (.slice Am km cm) km (ints ms) rfl HO.out (w.drew.drew.heap.size + 1) (some ⟨w.drew.drew.heap.size, 0, none⟩) 1 (ints [i]) _ rfl rfl (rv12_one w.drew.drew i 3) (ints_one [i]) (by omega) (by simp; omega) ?_); intro A' c' w3 hc3 hown3 hg3 hbl3; obtain ⟨hB3, hBW3, hbx3⟩ := HD.out.pushm (by simp; omega) hg3 hown3.out hbl3; have HBW3 := Lib.hid hBW3; have d3 := hbx3.cell 4; have e3 := hbx3.frozen 4; obtain ⟨w4, hw4⟩ : ∃ w4, w3.setCell ⟨g, 4, none⟩ (.slice A' (km + 1) c') = w4 := ⟨_, rfl⟩; rw [hw4] at hB3 HBW3; have c0 := hB3.box.cell 0; have c1 := hB3.box.cell 1; have hh := (hB3.holds.cells hi).1; rw [HX.out] at hh; have HB4 := Lib.hid hB3; clear hown3 hg3 hbl3 hBW3 hbx3 hB3)
    go_end0
    exact ⟨rfl, ⟨_, _, _, _, _, _, HB4.out⟩, (Below.refl L w).drew.drew.trans HBW3.out⟩
  · simp only [Nat.lt_irrefl, if_false, List.append_nil]
    have hl1 : ¬ (x : Int) < (x : Int) := by omega
    have HD := Lib.hid (HD.out.step (Below.refl _ _).drew)
    go_enter Try.func33, Try.ntmps33
    go_wp2_with fail
    go_region
    go_wp2_with fail
    go_region
    go_wp2_with fail
    go_end0
    exact ⟨rfl, ⟨_, _, _, _, _, _, HD.out⟩, (Below.refl L w).drew.drew⟩
end Go.Proofs.Ytcanahjilfnijaa
