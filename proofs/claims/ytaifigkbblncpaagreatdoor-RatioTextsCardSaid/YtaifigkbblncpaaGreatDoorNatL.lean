/-
  Numbers in digits of 32 bits: division by one digit, in place.
-/
import Derived.Test.YtaifigkbblncpaaGreatDoorWin
import Derived.Test.YtaifigkbblncpaaGreatDoorMC
import Derived.Test.YtaifigkbblncpaaGreatDoorMG
import Derived.Deep.QuietTactic
import Derived.BigQuiet
import Derived.Test.YtaifigkbblncpaaGreatDoorMB
namespace Go.Proofs.YtaifigkbblncpaaGreatDoor
open Go.RowKit Go.Shelf
set_option maxRecDepth 100000
attribute [local go_sem] Oper.semAt_some

theorem div32_bounds {h l y : Nat} (hy : h < y) (hyb : y < 4294967296) (hl : l < 4294967296) : (h * 4294967296 + l) / y < 4294967296 ∧ (h * 4294967296 + l) % y < y := by
  refine ⟨?_, Nat.mod_lt _ (by omega)⟩
  rw [Nat.div_lt_iff_lt_mul (by omega)]
  have : (h + 1) * 4294967296 ≤ y * 4294967296 := Nat.mul_le_mul_right _ hy
  rw [Nat.mul_comm 4294967296 y]
  omega
theorem or_hl {h l : Nat} (hh : h < 4294967296) (hl : l < 4294967296) : bits .or .u64 ((h : Int) * 4294967296) (l : Int) = ((h * 4294967296 + l : Nat) : Int) := by
  rw [show (h : Int) * 4294967296 = ((h * 4294967296 : Nat) : Int) by omega, or_low32 h l hh hl]

set_option maxHeartbeats 2000000 in
theorem div32_any (h l y : Nat) (w : World) (hy : h < y) (hyb : y < 4294967296) (hl : l < 4294967296) :
    Calls Tryz.prog 94 #[.int .u32 (h : Int), .int .u32 (l : Int), .int .u32 (y : Int)] w fun e w' =>
      e = .returned (.tuple #[.int .u32 (((h * 4294967296 + l) / y : Nat) : Int), .int .u32 (((h * 4294967296 + l) % y : Nat) : Int)]) ∧ ∃ n, w' = w.drewN n := by
  obtain ⟨hq, hr⟩ := div32_bounds hy hyb hl
  obtain ⟨T, hT⟩ : ∃ T, h * 4294967296 + l = T := ⟨_, rfl⟩
  obtain ⟨q, hq0⟩ : ∃ q, T / y = q := ⟨_, rfl⟩
  obtain ⟨r, hr0⟩ : ∃ r, T % y = r := ⟨_, rfl⟩
  have hor : bits .or .u64 ((h : Int) * 4294967296) (l : Int) = (T : Int) := by rw [or_hl (by omega) hl, hT]
  have hTb : T < 18446744073709551616 := by omega
  rw [hT, hq0] at hq
  rw [hT, hr0] at hr
  rw [hT, hq0, hr0]
  have y0 : ¬ (y : Int) = 0 := by omega
  have ed : (T : Int).tdiv (y : Int) = (q : Int) := by rw [Int.tdiv_eq_ediv_of_nonneg (by omega), ← hq0]; rfl
  have em : (T : Int).tmod (y : Int) = (r : Int) := by rw [Int.tmod_eq_emod_of_nonneg (by omega), ← hr0]; rfl
  have yne : ((y : Int) != 0) = true := by simp; omega
  have yle : decide ((y : Int) ≤ (h : Int)) = false := by simp; omega
  have wy : IntKind.u64.wrap (y : Int) = y := IntWalk.u64_in _ (by omega)
  have wq : IntKind.u64.wrap (q : Int) = q := IntWalk.u64_in _ (by omega)
  have wq2 : IntKind.u32.wrap (q : Int) = q := IntWalk.u32_in _ (by omega)
  have wr2 : IntKind.u32.wrap (r : Int) = r := IntWalk.u32_in _ (by omega)
  have wr3 : IntKind.u64.wrap (r : Int) = r := IntWalk.u64_in _ (by omega)
  have yb0 : ((y : Int) == 0) = false := by simp; omega
  clear hT hq0 hr0
  go_enter Tryz.func94, Tryz.ntmps94
  go_wp2_with fail
  go_quiet (fail)
  go_wp2_with fail
  go_ret2
  exact ⟨rfl, _, rfl⟩

/-- What is divided after k rounds: the k highest digits. -/
def DivD (xs zs : List Nat) (n d k rest : Nat) : Prop :=
  zs.length = n ∧ Dg zs ∧ (∀ j, j < n - k → nth zs j = nth xs j) ∧ U (zs.drop (n - k)) = U (xs.drop (n - k)) / d ∧ rest = U (xs.drop (n - k)) % d
theorem DivD.step {xs zs : List Nat} {n d k rest p : Nat} (h : DivD xs zs n d k rest) (hk : k < n) (hp : n - 1 - k = p) (hd : 0 < d) (hd2 : d < 4294967296) (hx : Dg xs) :
    DivD xs (zs.set p ((rest * 4294967296 + nth xs p) / d)) n d (k + 1) ((rest * 4294967296 + nth xs p) % d) := by
  obtain ⟨h1, h2, h3, h4, h5⟩ := h
  have hr : rest < d := by rw [h5]; exact Nat.mod_lt _ hd
  obtain ⟨hq, _⟩ := div32_bounds hr hd2 (hx.nth p)
  have e1 : n - (k + 1) = p := by omega
  have e2 : n - k = p + 1 := by omega
  rw [e2] at h3 h4 h5
  rw [DivD, e1]
  have hdx := U_drop xs p
  have key : U (xs.drop p) = (rest * 4294967296 + nth xs p) + d * (4294967296 * (U (xs.drop (p + 1)) / d)) := by
    rw [hdx]
    have := Nat.div_add_mod (U (xs.drop (p + 1))) d
    rw [← h5] at this
    generalize U (xs.drop (p + 1)) / d = Q at *
    generalize U (xs.drop (p + 1)) = X at *
    subst this
    grind
  refine ⟨by simp [h1], h2.set hq, fun j hj => by rw [nth_set32 (by omega), if_neg (by omega)]; exact h3 j (by omega), ?_, ?_⟩
  · have hdz := U_drop (zs.set p ((rest * 4294967296 + nth xs p) / d)) p
    rw [nth_set32 (by omega), if_pos rfl, nth_drop_ext (a := zs.set p ((rest * 4294967296 + nth xs p) / d)) (b := zs) (k := p + 1) (by simp) (fun j hj => by rw [nth_set32 (by omega), if_neg (by omega)]), h4] at hdz
    rw [hdz, key, Nat.add_mul_div_left _ _ hd]
  · rw [key, Nat.add_mul_mod_self_left]

/-- What divByDigit answers, and leaves. -/
def DividedBy (w : World) (g : Nat) (L : List Value) (xs : List Nat) (R : List Value) (n d : Nat) (e : Ending) (w' : World) : Prop :=
  ∃ zs, e = .returned (.int .u32 ((U xs % d : Nat) : Int)) ∧ zs.length = n ∧ Dg zs ∧ U zs = U xs / d ∧ Win w' g 53 L zs R ∧ w.grownBy w' (some g)

structure DMem (w : World) (g o n c d : Nat) (L R : List Value) (xs : List Nat) (k : Nat) (W : World) : Prop where
  one : Blk W w.heap.size 23 #[.slice (some ⟨g, o, none⟩) n c]
  two : Blk W (w.heap.size + 1) 53 #[.int .u32 (d : Int)]
  rest : ∃ rest zs, DivD xs zs n d k rest ∧ Blk W (w.heap.size + 2) 53 #[.int .u32 (rest : Int)] ∧ Win W g 53 L zs R
  wrote : w.grownBy W (some g)
theorem DMem.kept {w : World} {g o n c d : Nat} {L R : List Value} {xs : List Nat} {k : Nat} {X Y : World} {row : Option Nat} (h : DMem w g o n c d L R xs k X) (hg : X.grownBy Y row) {B : Nat} (hB : w.heap.size ≤ B)
    (hr : ∀ r, row = some r → B ≤ r ∧ ∃ o : Obj, X.heap[r]? = some o ∧ o.isCells = false) : DMem w g o n c d L R xs k Y := by
  obtain ⟨rest, zs, h1, h2, h3⟩ := h.rest
  have hr2 : ∀ r, row = some r → ∃ o : Obj, X.heap[r]? = some o ∧ o.isCells = false := fun r e => (hr r e).2
  exact ⟨h.one.kept hg hr2, h.two.kept hg hr2, ⟨rest, zs, h1, h2.kept hg hr2, h3.kept hg hr2⟩, wrote_more h.wrote hg (fun r e => by have := (hr r e).1; omega)⟩

set_option maxHeartbeats 4000000 in
theorem divByDigit_any (g o : Nat) (L R : List Value) (xs : List Nat) (n c d : Nat) (w : World) (hx : xs.length = n) (hL : L.length = o) (hw : Win w g 53 L xs R)
    (hd : Dg xs) (hn : n ≤ 10000000) (hc : n ≤ c) (hd0 : 0 < d) (hdb : d < 4294967296) :
    Calls Tryz.prog 74 #[.slice (some ⟨g, o, none⟩) n c, .int .u32 (d : Int)] w (DividedBy w g L xs R n d) := by
  have HX := Lib.hid hx
  have HL := Lib.hid hL
  have hgl := hw.lt
  clear hx hL
  refine calls_of_leave Tryz.func74 rfl ?_
  simp only [Tryz.ntmps74, List.size_toArray, List.length_cons, List.length_nil, Nat.reduceAdd, Nat.reduceSub, Array.replicate_succ, Array.replicate_zero, List.push_toArray, List.append_toArray, List.nil_append, List.cons_append]
  go_wp2_with fail
  refine (backw_calls _ _ _ _).mono ?_
  rintro e w' ⟨rfl, rfl⟩
  obtain ⟨W0, hW0⟩ : ∃ W0, ((((w.alloc (.cells #[.slice (some ⟨g, o, none⟩) n c] 23)).alloc (.cells #[.int .u32 (d : Int)] 53)).alloc (.cells #[.int .u32 0] 53)).alloc (.cells #[.slice (some ⟨g, o, none⟩) n c] 23)) = W0 := ⟨_, rfl⟩
  have hs0 : W0.heap.size = w.heap.size + 4 := by rw [← hW0]; simp
  have hB0 : Below w.heap.size w W0 := by rw [← hW0]; exact (((((Below.refl _ w).alloc (Nat.le_refl _) _).alloc (by simp) _).alloc (by simp; omega) _).alloc (by simp; omega) _)
  have hwin0 : Win W0 g 53 L xs R := hw.below hB0 hgl
  have b1 : Blk W0 w.heap.size 23 #[.slice (some ⟨g, o, none⟩) n c] := by rw [← hW0]; exact (((Blk.new w _ _).alloc _).alloc _).alloc _
  have b2 : Blk W0 (w.heap.size + 1) 53 #[.int .u32 (d : Int)] := by
    rw [← hW0]
    have := ((Blk.new (w.alloc (.cells #[.slice (some ⟨g, o, none⟩) n c] 23)) 53 #[.int .u32 (d : Int)]).alloc (.cells #[.int .u32 0] 53)).alloc (.cells #[.slice (some ⟨g, o, none⟩) n c] 23)
    rw [World.size_alloc] at this
    exact this
  have b3 : Blk W0 (w.heap.size + 2) 53 #[.int .u32 ((0 : Nat) : Int)] := by
    rw [← hW0]
    have := (Blk.new ((w.alloc (.cells #[.slice (some ⟨g, o, none⟩) n c] 23)).alloc (.cells #[.int .u32 (d : Int)] 53)) 53 #[.int .u32 0]).alloc (.cells #[.slice (some ⟨g, o, none⟩) n c] 23)
    rw [World.size_alloc, World.size_alloc] at this
    exact this
  have b4 : Blk W0 (w.heap.size + 3) 23 #[.slice (some ⟨g, o, none⟩) n c] := by
    rw [← hW0]
    have := Blk.new (((w.alloc (.cells #[.slice (some ⟨g, o, none⟩) n c] 23)).alloc (.cells #[.int .u32 (d : Int)] 53)).alloc (.cells #[.int .u32 0] 53)) 23 #[.slice (some ⟨g, o, none⟩) n c]
    rw [World.size_alloc, World.size_alloc, World.size_alloc] at this
    exact this
  have hI0 : DMem w g o n c d L R xs 0 W0 := ⟨b1, b2, ⟨0, xs, ⟨HX.out, hd, fun _ _ => rfl, by rw [Nat.sub_zero, List.drop_eq_nil_of_le (by rw [HX.out]; omega)]; simp [U], by rw [Nat.sub_zero, List.drop_eq_nil_of_le (by rw [HX.out]; omega)]; simp [U]⟩, b3, hwin0⟩, below_then hB0 (World.grownBy.refl _ _)⟩
  have hrA := hwin0.reads HL.out
  have hgo := backw_goes Fence.wide 4 trivial rfl (by omega) (w.heap.size + 3) (some ⟨g, o, none⟩) xs n c W0 HX.out hrA hn hc (b4.cell 0)
  have HI0 := Lib.hid hI0
  clear b1 b2 b3 b4 hI0 hwin0
  go_wp2_with fail
  clear hW0
  refine (wpIn_wide (n := 5)).1 ?_
  refine wpIn_rangeFunc_goes rfl (by omega) (gf := 79) (lb := #[.pointer (some ⟨w.heap.size + 3, 0, none⟩)]) rfl trivial (enters_of Tryz.func79 (by kernel_rfl) rfl)
    hgo (bkeep_lt HX.out hrA (by omega)) (Below.refl _ _) (fun _ => rfl)
    (fun k W => DMem w g o n c d L R xs k W) (fun _ _ _ => False)
    (fun s X Y row hs hg hr => DMem.kept hs hg (by omega) hr) (fun _ _ _ _ _ hs _ _ => hs) HI0.out ?round ?done ?stop
  case round =>
    intro l k W hk _
    simp only [benc]
    gi_wp2
    refine ⟨trivial, ?_⟩
    intro W hm
    obtain ⟨p, hp⟩ : ∃ p, n - 1 - k = p := ⟨_, rfl⟩
    have hpn : p < n := by omega
    rw [hp]
    obtain ⟨rest, zs, hdd, hb3, hwn⟩ := hm.rest
    have c1 := hm.one.cell 0
    have c2 := hm.two.cell 0
    have c3 := hb3.cell 0
    have f3 := hb3.frozen 0
    have fp := hwn.frozen (o + p)
    have cp := hwn.cell HL.out (k := p) (by rw [hdd.1]; exact hpn)
    have hxp := hd.nth p
    have hrd : rest < d := by rw [hdd.2.2.2.2]; exact Nat.mod_lt _ hd0
    have HST := Lib.hid (hdd.step hk hp hd0 hdb hd)
    have HP := Lib.hid hp
    have HDD := Lib.hid hdd
    have HWN := Lib.hid hwn
    have HB3 := Lib.hid hb3
    have HM := Lib.hid hm
    clear hdd hwn hb3 hm hp
    have hp0 : (0 : Int) ≤ (p : Int) := by omega
    have hp1 : (p : Int) < (n : Int) := by omega
    have dv := fun wz => div32_any rest (nth xs p) d wz hrd hdb hxp
    obtain ⟨q, hq⟩ : ∃ q, (rest * 4294967296 + nth xs p) / d = q := ⟨_, rfl⟩
    obtain ⟨r, hr⟩ : ∃ r, (rest * 4294967296 + nth xs p) % d = r := ⟨_, rfl⟩
    simp only [hq, hr] at dv HST
    clear hq hr
    gi_wp2_with fail
    refine round_held (S := fun w' => w'.cell? ⟨w.heap.size, 0, none⟩ = some (.slice (some ⟨g, o, none⟩) n c) ∧ w'.cell? ⟨w.heap.size + 1, 0, none⟩ = some (.int .u32 (d : Int))) (by kernel_rfl) (by kernel_rfl) (fun h => by obtain ⟨_, _, h⟩ := h; exact h) ⟨c1, c2⟩ (fun hHeld => ?_)
    refine wpAnyH_take (i := 0) (v := ?_) rfl (by kernel_rfl) (by kernel_rfl) (by kernel_rfl) (fun _ _ _ h => h) (Or.inl ⟨by rfl, fun w hS => ?_⟩) (by assumption) ?_
    rotate_left
    · dsimp only at hS
      go_simp
      try with_reducible rfl
    dsimp only [Act.put]
    try simp only [List.setIfInBounds_toArray, List.set_cons_zero, List.set_cons_succ]
    refine wpAnyH_take (i := 1) (v := ?_) rfl (by kernel_rfl) (by kernel_rfl) (by kernel_rfl) (fun _ _ _ h => h) (Or.inl ⟨by rfl, fun w hS => ?_⟩) (by assumption) ?_
    rotate_left
    · dsimp only at hS
      go_simp
      try with_reducible rfl
    dsimp only [Act.put]
    try simp only [List.setIfInBounds_toArray, List.set_cons_zero, List.set_cons_succ]
    refine wpAnyH_take (i := 3) (v := ?_) rfl (by kernel_rfl) (by kernel_rfl) (by kernel_rfl) (fun _ _ _ h => h) (Or.inl ⟨by rfl, fun w hS => ?_⟩) (by assumption) ?_
    rotate_left
    · dsimp only at hS
      go_simp
      try with_reducible rfl
    dsimp only [Act.put]
    try simp only [List.setIfInBounds_toArray, List.set_cons_zero, List.set_cons_succ]
    refine wpAnyH_take (i := 4) (v := ?_) rfl (by kernel_rfl) (by kernel_rfl) (by kernel_rfl) (fun _ _ _ h => h) (Or.inl ⟨by rfl, fun w hS => ?_⟩) (by assumption) ?_
    rotate_left
    · dsimp only at hS
      go_simp
      try with_reducible rfl
    dsimp only [Act.put]
    try simp only [List.setIfInBounds_toArray, List.set_cons_zero, List.set_cons_succ]
    refine wpAnyH_ready (rs := [2]) (by kernel_rfl) (by simp) (AllReadyH.cons rfl (fun K hK => ?_) AllReadyH.nil)
    go_simp
    refine hK.out _ _ (by assumption) (fun hHeld2 => ?_)
    clear hK K
    refine wpAnyH_ready (rs := [5]) (by kernel_rfl) (by simp) (AllReadyH.cons rfl (fun K hK => ?_) AllReadyH.nil)
    go_simp
    refine (dv _).mono ?_
    rintro e w' ⟨rfl, n1, rfl⟩
    refine hK.out _ _ ⟨c1, c2⟩ (fun hHeld3 => ?_)
    clear hK K
    refine wpAnyH_take (i := 6) (v := ?_) rfl (by kernel_rfl) (by kernel_rfl) (by kernel_rfl) (fun _ _ _ h => h) (Or.inl ⟨by rfl, fun w hS => ?_⟩) (by assumption) ?_
    rotate_left
    · dsimp only at hS
      go_simp
      try with_reducible rfl
    dsimp only [Act.put]
    try simp only [List.setIfInBounds_toArray, List.set_cons_zero, List.set_cons_succ]
    refine wpAnyH_take (i := 7) (v := ?_) rfl (by kernel_rfl) (by kernel_rfl) (by kernel_rfl) (fun _ _ _ h => h) (Or.inl ⟨by rfl, fun w hS => ?_⟩) (by assumption) ?_
    rotate_left
    · dsimp only at hS
      go_simp
      try with_reducible rfl
    dsimp only [Act.put]
    try simp only [List.setIfInBounds_toArray, List.set_cons_zero, List.set_cons_succ]
    refine wpAnyH_take (i := 8) (v := ?_) rfl (by kernel_rfl) (by kernel_rfl) (by kernel_rfl) (fun _ _ _ h => h) (Or.inl ⟨by rfl, fun w hS => ?_⟩) (by assumption) ?_
    rotate_left
    · dsimp only at hS
      go_simp
      try with_reducible rfl
    dsimp only [Act.put]
    try simp only [List.setIfInBounds_toArray, List.set_cons_zero, List.set_cons_succ]
    refine wpAnyH_take (i := 9) (v := ?_) rfl (by kernel_rfl) (by kernel_rfl) (by kernel_rfl) (fun _ _ _ h => h) (Or.inl ⟨by rfl, fun w hS => ?_⟩) (by assumption) ?_
    rotate_left
    · dsimp only at hS
      go_simp
      try with_reducible rfl
    dsimp only [Act.put]
    try simp only [List.setIfInBounds_toArray, List.set_cons_zero, List.set_cons_succ]
    refine wpAnyH_ready (rs := [10]) (by kernel_rfl) (by simp) (AllReadyH.cons rfl (fun K hK => ?_) AllReadyH.nil)
    go_simp
    obtain ⟨m1, hm1⟩ : ∃ m, 1 + n1 = m := ⟨_, rfl⟩
    rw [hm1]
    obtain ⟨W1, hW1⟩ : ∃ W1, (W.drewN m1).setCell ⟨g, o + p, none⟩ (.int .u32 (q : Int)) = W1 := ⟨_, rfl⟩
    have c11 : W1.cell? ⟨w.heap.size, 0, none⟩ = some (.slice (some ⟨g, o, none⟩) n c) := by rw [← hW1]; exact (World.cell?_setCell_other _ _ _ _ (by intro e; injection e; omega)).trans c1
    have c12 : W1.cell? ⟨w.heap.size + 1, 0, none⟩ = some (.int .u32 (d : Int)) := by rw [← hW1]; exact (World.cell?_setCell_other _ _ _ _ (by intro e; injection e; omega)).trans c2
    have c13 : W1.cell? ⟨w.heap.size + 2, 0, none⟩ = some (.int .u32 (rest : Int)) := by rw [← hW1]; exact (World.cell?_setCell_other _ _ _ _ (by intro e; injection e; omega)).trans c3
    have f13 : W1.frozen? ⟨w.heap.size + 2, 0, none⟩ = false := by rw [← hW1, World.frozen?_setCell]; exact f3
    have HD1 : Hid (Win W1 g 53 L (zs.set p q) R ∧ Blk W1 w.heap.size 23 #[.slice (some ⟨g, o, none⟩) n c] ∧ Blk W1 (w.heap.size + 1) 53 #[.int .u32 (d : Int)] ∧ Blk W1 (w.heap.size + 2) 53 #[.int .u32 (rest : Int)] ∧ w.grownBy W1 (some g) ∧ KeepsOthers W W1 ∧ Same (bkeep (w.heap.size + 3) (some ⟨g, o, none⟩) n k) W W1) := Lib.hid (by
      rw [← hW1]
      have hwn : Win (W.drewN m1) g 53 L zs R := HWN.out
      refine ⟨hwn.put HL.out (by rw [HDD.out.1]; exact hpn) rfl, ?_, ?_, ?_, ?_, (KeepsOthers.drewN W m1).trans (KeepsOthers.setCell _ _ _), (Same.drewN m1).trans (Same.setCell' (fun a ha e => ?_) _)⟩
      · exact Blk.far (w := W.drewN m1) HM.out.one (by show w.heap.size ≠ g; omega) _
      · exact Blk.far (w := W.drewN m1) HM.out.two (by show w.heap.size + 1 ≠ g; omega) _
      · exact Blk.far (w := W.drewN m1) HB3.out (by show w.heap.size + 2 ≠ g; omega) _
      · exact wrote_set (w := W.drewN m1) (wrote_more HM.out.wrote (⟨rfl, rfl, rfl, Nat.le_refl _, fun _ _ _ => rfl⟩ : W.grownBy (W.drewN m1) none) (fun r e => by cases e)) _ _
      · rcases ha with rfl | ⟨b, o', j, hA, hj, rfl⟩
        · injection e; omega
        · injection hA with hA
          injection hA with h1 h2
          injection e with _ e2
          have := HP.out
          omega)
    rw [hW1]
    clear hm1 hW1
    refine hK.out _ _ ⟨c11, c12⟩ (fun hHeld4 => ?_)
    clear hK K
    refine wpAnyH_ready (rs := [11]) (by kernel_rfl) (by simp) (AllReadyH.cons rfl (fun K hK => ?_) AllReadyH.nil)
    go_simp
    refine hK.out _ _ ⟨(World.cell?_setCell_other _ _ _ _ (by intro e; injection e; omega)).trans c11, (World.cell?_setCell_other _ _ _ _ (by intro e; injection e; omega)).trans c12⟩ (fun hHeld5 => ?_)
    clear hK K
    refine wpAnyH_done (by kernel_rfl) ?_ _
    obtain ⟨k1, k2, k3, k4, k5, k6, k7⟩ := HD1.out
    refine ⟨(k6.trans (KeepsOthers.setCell _ _ _)).from _, k7.trans (Same.setCell' (fun a ha e => ?_) _), ?_⟩
    · rcases ha with rfl | ⟨b, o', j, hA, hj, rfl⟩
      · injection e; omega
      · injection hA with hA
        injection hA with h1 h2
        injection e with e1 _
        omega
    · refine ⟨k2.far (by simp; omega) _, k3.far (by simp) _, ⟨r, zs.set p q, HST.out, ?_, k1.far_ (by simp; omega) _⟩, ?_⟩
      · have := k4.set_ 0 (.int .u32 (r : Int))
        exact this
      · exact wrote_more k5 (grownBy_setCell' W1 (w.heap.size + 2) _) (fun r e => by cases e; omega)
  case done =>
    rintro D W hD hm hK
    obtain ⟨rest, zs, ⟨hzl, hzd, _, hzU, hzr⟩, hb3, hwn⟩ := hm.rest
    rw [Nat.sub_self] at hzU hzr
    have c3 := hb3.cell 0
    have hD2 : w.heap.size ≤ D := by omega
    have HR : Hid (rest = U xs % d) := Lib.hid (by simpa using hzr)
    have HZU : Hid (U zs = U xs / d) := Lib.hid (by simpa using hzU)
    have HZL := Lib.hid hzl
    have HM := Lib.hid hm
    have HWN := Lib.hid hwn
    clear hzr hzU hzl hm hwn hb3
    go_wp2_with fail
    have hgD : W.grownBy (W.putObj D (.deferred none)) (some D) := grownBy_putObj' W D _
    exact leave_mark (v := .int .u32 (rest : Int)) hK (by simp [results, Tryz.results74, go_sem]) ⟨zs, by rw [HR.out], HZL.out, hzd, HZU.out, HWN.out.kept hgD (fun r e => by cases e; exact ⟨_, hK, rfl⟩), wrote_more HM.out.wrote hgD (fun r e => by cases e; exact hD2)⟩
  case stop =>
    rintro D c k W _ _ h _
    exact h.elim
end Go.Proofs.YtaifigkbblncpaaGreatDoor
