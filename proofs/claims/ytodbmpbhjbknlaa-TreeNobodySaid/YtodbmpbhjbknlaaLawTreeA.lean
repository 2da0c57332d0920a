/-
  A tree of sums: the chapter's example; a nil tree has no place: the walk.
-/
import Derived.Test.YtodbmpbhjbknlaaTreeH
namespace Go.Proofs.Ytodbmpbhjbknlaa
open Go.RowKit
set_option maxRecDepth 100000

theorem wrote10_b {g : Nat} {w W W' : World} (h : Below w.heap.size w W) (hg : W.grownBy W' (some g)) (hB : w.heap.size ≤ g) : Below w.heap.size w W' := h.grown hg h.size (fun k hk => by cases hk; exact hB)
theorem quiet10_b {w W W' : World} (h : Below w.heap.size w W) (hg : W.grownBy W' none) : Below w.heap.size w W' := h.grown hg h.size (fun k hk => by cases hk)

set_option maxHeartbeats 2000000 in
theorem alive10_any (w : World) : Calls Try.prog 5 #[] w fun en w' => en = .returned (.bool true) ∧ Below w.heap.size w w' := by
  have HN := Lib.hid (new_yes 3 w (by omega) (by omega))
  go_enter Try.func5, Try.ntmps5
  go_wp2_with fail
  refine HN.out.mono ?_
  rintro en w1 ⟨g, rfl, hg, ht1, hb1⟩
  have hg1 := good10_new (n := 3) (by omega) (by omega)
  have HB1 := Lib.hid hb1
  have HT1 := Lib.hid ht1
  have HS := Lib.hid (set10_ok 0 2 w1 ht1 hg1 (by omega) (by omega) (by decide))
  clear HN ht1 hb1 hg1
  go_wp2_with fail
  refine (new_no 0 w1 (.inl (by omega))).mono ?_
  rintro en w2 ⟨rfl, rfl⟩
  go_wp2_with fail
  refine HS.out.mono ?_
  rintro en w3 ⟨rfl, ⟨S3, ht3, hg3⟩, hb3⟩
  have HB3 := Lib.hid (wrote10_b HB1.out hb3 hg)
  have HS3 := Lib.hid (set10_ok 2 3 w3 ht3 hg3 (by omega) (by omega) (by decide))
  clear HS ht3 hg3 hb3 HB1 HT1
  go_wp2_with fail
  refine HS3.out.mono ?_
  rintro en w4 ⟨rfl, ⟨S4, ht4, hg4⟩, hb4⟩
  have HB4 := Lib.hid (wrote10_b HB3.out hb4 hg)
  have HF := Lib.hid (find10_yes (r := 4) (m := 2) w4 ht4 hg4 ⟨by decide, by decide, by decide⟩)
  have HG4 := Lib.hid hg4
  clear HS3 ht4 hg4 hb4 HB3
  go_wp2_with fail
  refine HF.out.mono ?_
  rintro en w5 ⟨rfl, ht5, hb5⟩
  have HB5 := Lib.hid (wrote10_b HB4.out hb5 hg)
  have HT5 := Lib.hid ht5
  have HTO := total10_any w5 ht5 (by omega) (by omega)
  rw [HG4.out.root, show up9 (put10 (put10 (List.replicate 3 0) 0 2) 2 3) 3 = 5 by decide] at HTO
  have HTO2 := Lib.hid HTO
  clear HF ht5 hb5 HB4 HTO
  go_wp2_with fail
  refine HTO2.out.mono ?_
  rintro en w6 ⟨rfl, hb6⟩
  have HB6 := Lib.hid (quiet10_b HB5.out hb6)
  have HT6 := Lib.hid (HT5.out.quiet hb6)
  have HAH := ahead10_any 2 w6 HT6.out HG4.out
  rw [show up9 (put10 (put10 (List.replicate 3 0) 0 2) 2 3) (2 : Int).toNat = 2 by decide] at HAH
  have HAH2 := Lib.hid HAH
  clear HTO2 hb6 HB5 HT5 HAH
  go_wp2_with fail
  refine HAH2.out.mono ?_
  rintro en w7 ⟨rfl, hb7⟩
  have HB7 := Lib.hid (quiet10_b HB6.out hb7)
  have HT7 := Lib.hid (HT6.out.quiet hb7)
  have HH := height10_any w7 HT7.out (by omega) (by omega)
  rw [show hgt10 3 = 2 by decide] at HH
  have HH2 := Lib.hid HH
  clear HAH2 hb7 HB6 HT6 HH
  go_wp2_with fail
  refine HH2.out.mono ?_
  rintro en w8 ⟨rfl, rfl⟩
  have HR := Lib.hid (set10_range 3 1 w8 HT7.out (.inr (by omega)))
  clear HH2
  go_wp2_with fail
  refine HR.out.mono ?_
  rintro en w9 ⟨rfl, rfl⟩
  go_wp2_with fail
  go_ret
  exact ⟨rfl, HB7.out⟩

set_option maxHeartbeats 2000000 in
theorem nobody10_walk (n : Int) (r : Nat) (w : World) : Calls Try.prog 4 #[.int .i64 n, .int .u64 (r : Int)] w fun en w' => en = .returned (.bool true) ∧ Below w.heap.size w w' := by
  go_enter Try.func4, Try.ntmps4
  go_wp2_with fail
  refine (find_nil10 r _).mono ?_
  rintro en w1 ⟨rfl, rfl⟩
  go_wp2_with fail
  refine (set_nil10 _ _ _).mono ?_
  rintro en w1 ⟨rfl, rfl⟩
  go_wp2_with fail
  refine (grow_nil10 _ _).mono ?_
  rintro en w1 ⟨rfl, rfl⟩
  go_wp2_with fail
  refine (fill_nil10 _ _).mono ?_
  rintro en w1 ⟨rfl, rfl⟩
  go_wp2_with fail
  refine (get_nil10 _ _).mono ?_
  rintro en w1 ⟨rfl, rfl⟩
  go_wp2_with fail
  refine (len_nil10 _).mono ?_
  rintro en w1 ⟨rfl, rfl⟩
  go_wp2_with fail
  refine (total_nil10 _).mono ?_
  rintro en w1 ⟨rfl, rfl⟩
  go_wp2_with fail
  refine (ahead_nil10 _ _).mono ?_
  rintro en w1 ⟨rfl, rfl⟩
  go_wp2_with fail
  refine (all_nil10 _).mono ?_
  rintro en w1 ⟨rfl, rfl⟩
  go_wp2_with fail
  refine (height_nil10 _).mono ?_
  rintro en w1 ⟨rfl, rfl⟩
  go_wp2_with fail
  refine (steps_nil10 _).mono ?_
  rintro en w1 ⟨rfl, rfl⟩
  go_wp2_with fail
  refine (alive10_any _).mono ?_
  rintro en w1 ⟨rfl, hb1⟩
  go_wp2_with fail
  go_ret
  exact ⟨rfl, hb1⟩
end Go.Proofs.Ytodbmpbhjbknlaa
