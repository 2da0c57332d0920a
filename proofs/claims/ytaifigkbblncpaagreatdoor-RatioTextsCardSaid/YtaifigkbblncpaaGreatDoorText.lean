/-
  Numbers in digits of 32 bits: Text.
-/
import Derived.Test.YtaifigkbblncpaaGreatDoorMU
import Derived.Test.YtaifigkbblncpaaGreatDoorNatN
import Derived.Test.YtaifigkbblncpaaGreatDoorMC
import Derived.Test.YtaifigkbblncpaaGreatDoorMB
import Derived.Lib.AppendStr
namespace Go.Proofs.YtaifigkbblncpaaGreatDoor
open Go.RowKit Go.Shelf
set_option maxRecDepth 100000
attribute [local go_sem] Oper.semAt_some

/-- The k lowest decimal digits of g. -/
def padk : Nat → Nat → List UInt8
  | 0, _ => []
  | k + 1, g => padk k (g / 10) ++ [UInt8.ofNat (48 + g % 10)]
theorem decDigits_step {u : Nat} (h : 10 ≤ u) : Lib.decDigits u = Lib.decDigits (u / 10) ++ [UInt8.ofNat (48 + u % 10)] := by rw [Lib.decDigits, dif_neg (by omega)]
theorem decDigits_pad (k : Nat) : ∀ hi g : Nat, 0 < hi → g < 10 ^ k → Lib.decDigits (hi * 10 ^ k + g) = Lib.decDigits hi ++ padk k g := by
  induction k with
  | zero => intro hi g _ hg; obtain rfl : g = 0 := by simpa using hg
            simp [padk]
  | succ k ih =>
    intro hi g hh hg
    have h1 : 0 < 10 ^ k := Nat.pow_pos (by omega)
    have h2 : 1 * 10 ^ k ≤ hi * 10 ^ k := Nat.mul_le_mul_right _ hh
    rw [Nat.pow_succ] at hg ⊢
    rw [decDigits_step (by rw [← Nat.mul_assoc]; omega), show (hi * (10 ^ k * 10) + g) / 10 = hi * 10 ^ k + g / 10 by rw [← Nat.mul_assoc]; omega, show (hi * (10 ^ k * 10) + g) % 10 = g % 10 by rw [← Nat.mul_assoc]; omega,
      ih hi (g / 10) hh (by omega), padk, List.append_assoc]
theorem pad9 {g : Nat} (hg : g < 1000000000) : (Lib.decDigits (1000000000 + g)).drop 1 = padk 9 g := by
  have := decDigits_pad 9 1 g (by omega) (by omega)
  rw [show 1 * 10 ^ 9 + g = 1000000000 + g by omega] at this
  rw [this, Lib.decDigits_one (by omega)]
  rfl
theorem padk_len (k g : Nat) : (padk k g).length = k := by
  induction k generalizing g with
  | zero => rfl
  | succ k ih => simp [padk, ih]

/-- The number of a list of groups. -/
def GV : List Nat → Nat
  | [] => 0
  | d :: r => d + 1000000000 * GV r
theorem GV_grp (a : Nat) : GV (grp a) = a := by
  induction a using Nat.strongRecOn with
  | ind a ih =>
    rcases Nat.eq_zero_or_pos a with rfl | hp
    · rw [grp_zero]; rfl
    · rw [grp_pos hp, GV, ih _ (by omega)]; omega
theorem GV_drop (xs : List Nat) (k : Nat) : GV (xs.drop k) = nth xs k + 1000000000 * GV (xs.drop (k + 1)) := by
  by_cases h : k < xs.length
  · rw [List.drop_eq_getElem_cons h, nth_in h]; rfl
  · rw [List.drop_eq_nil_of_le (by omega), List.drop_eq_nil_of_le (by omega), nth_out (by omega)]; rfl
theorem grp_top (a : Nat) (h : 0 < a) : 0 < nth (grp a) ((grp a).length - 1) := by
  induction a using Nat.strongRecOn with
  | ind a ih =>
    rw [grp_pos h]
    rcases Nat.eq_zero_or_pos (a / 1000000000) with h0 | hp
    · rw [h0, grp_zero]
      show 0 < a % 1000000000
      omega
    · have := ih _ (by omega) hp
      have hl : 0 < (grp (a / 1000000000)).length := by rw [grp_pos hp]; simp
      rw [List.length_cons, show (grp (a / 1000000000)).length + 1 - 1 = ((grp (a / 1000000000)).length - 1) + 1 by omega, nth_cons]
      exact this

theorem GV_drop_le (xs : List Nat) (k : Nat) : GV (xs.drop k) ≤ GV xs := by
  induction xs generalizing k with
  | nil => simp [GV]
  | cons d r ih =>
    cases k with
    | zero => simp
    | succ k => have := ih k; simp only [List.drop_succ_cons, GV]; omega
theorem decDigits_len {u k : Nat} (h : u < 10 ^ (k + 1)) : (Lib.decDigits u).length ≤ k + 1 := by
  induction k generalizing u with
  | zero => rw [Lib.decDigits_one (by simpa using h)]; simp
  | succ k ih =>
    by_cases h1 : u < 10
    · rw [Lib.decDigits_one h1]; simp
    · rw [decDigits_step (by omega), List.length_append]
      have := ih (u := u / 10) (by rw [Nat.pow_succ] at h; omega)
      simp only [List.length_singleton]
      omega
theorem dec_small {xs : List Nat} {n0 : Nat} (h : Dg xs) (hl : xs.length = n0) : U xs < 10 ^ (10 * n0 + 1) := by
  have h1 := U_lt h
  rw [hl] at h1
  have h2 : (4294967296 : Nat) ^ n0 ≤ (10 ^ 10) ^ n0 := Nat.pow_le_pow_left (by decide) _
  rw [← Nat.pow_mul] at h2
  have h3 : (10 : Nat) ^ (10 * n0) ≤ 10 ^ (10 * n0 + 1) := Nat.pow_le_pow_right (by omega) (by omega)
  omega
theorem Same.of_written {S : Addr → Prop} {W W' : World} {row : Option Nat} (hg : W.grownBy W' row) (hS : ∀ p, S p → some p.block ≠ row) : Same S W W' :=
  ⟨hg.size, fun p _ hp hv => hg.cell hv (hS p hp)⟩
theorem KeepsOthers.of_below {W W' : World} (h : Below W.heap.size W W') : KeepsOthers W W' := ⟨h.size, fun k _ hk _ => (h.block k (Array.getElem?_eq_some_iff.1 hk).1).trans hk⟩
theorem KeepsOthers.owned {W W' : World} {base : Nat} {e : TypeId} {v : Value} {n : Nat} {xs : List Value} (h : W.ownsRow base e 1 v n xs) (hg : W.grownBy W' v.ownBlock) : KeepsOthers W W' :=
  KeepsOthers.of_grownBy hg fun j o hj ho => by
    rcases h.2 with ⟨rfl, _⟩ | ⟨g, cap, cur, rfl, _, hh, _⟩
    · cases hj
    · injection hj with hj
      subst hj
      rw [hh] at ho
      cases ho
      rfl

section
variable {P : Program} (w : World)
/-- append of a string at a step of a region. -/
theorem step_append_str {ops : Array Oper} {o : Oper} {a : Act} {K : Act → World → Prop} {Q : Exit → Act → World → Prop} {E : Prop} (hgd : o.guard = none) (sl x : Operand) (t u : TypeId)
    (ho : o.op = .call { callee := .builtin .append, args := #[sl, x], argTypes := #[t, u] })
    (base : Nat) (e : TypeId) (ht : P.underlying t = some (.slice e)) (hu : P.underlying u = some .string) (hinfo : (P.info? e).map (fun i => (i.zero, i.size, i.bytes)) = some (some (.int .u8 0), 1, 1))
    (v : Value) (n : Nat) (xs : List Value) (hs : a.eval sl = v) (hown : w.ownsRow base e 1 v n xs) (s : ByteArray) (hx : a.eval x = .string s)
    (hb : n + s.size ≤ 10000000) (hbase : base ≤ w.heap.size)
    (h : ∀ A' n' c' w', Hid (n + s.size = n') → n' ≤ c' → Hid (w'.ownsRow base e 1 (.slice A' n' c') n' (xs ++ Lib.strCells s)) → w.grownBy w' v.ownBlock → K (a.put o.dst (.slice A' n' c')) w') :
    if Region.wanted o (yielded ops a.tmps) = true then Oper.wp P o a w K Q else E := by
  have hw : Region.wanted o (yielded ops a.tmps) = true := by simp [Region.wanted, hgd]
  rw [if_pos hw]
  obtain ⟨i, hi, hz, hsz, hby⟩ := info_parts hinfo
  obtain ⟨v', w', hrun, h2, h3, _⟩ := Lib.run_append_own_string (P := P) w base t u o.type e i ht hu hi hz hsz hby v n xs hown s (by unfold maxLen; omega) (by omega) hbase
  unfold Oper.wp execOp
  simp only [ho, resolve, invoke, builtin, Sem.run_bind, Sem.run_pure, Result.andThen_ok, List.map_toArray, List.map_cons, List.map_nil, hs, hx, hrun]
  obtain ⟨A', c', rfl, hc'⟩ := ownsRow_form w' h2
  exact h A' _ c' w' rfl hc' h2 h3
end
theorem info_u8 : (Tryz.prog.info? 5).map (fun i => (i.zero, i.size, i.bytes)) = some (some (.int .u8 0), 1, 1) := by kernel_rfl
theorem owns_kept {w w' : World} {base : Nat} {e : TypeId} {v : Value} {n : Nat} {xs : List Value} (h : w.ownsRow base e 1 v n xs) {row : Option Nat} (hg : w.grownBy w' row) (hr : ∀ r, row = some r → ∃ o : Obj, w.heap[r]? = some o ∧ o.isCells = false) : w'.ownsRow base e 1 v n xs := by
  have hlt := h.lt
  obtain ⟨h1, h2⟩ := h
  refine ⟨h1, ?_⟩
  rcases h2 with h2 | ⟨g, cap, cur, rfl, hb, hh, r⟩
  · exact .inl h2
  · refine .inr ⟨g, cap, cur, rfl, hb, ?_, r⟩
    rw [hg.block g (hlt g rfl).2 (fun e => by obtain ⟨o, ho, hc⟩ := hr g e.symm; rw [hh] at ho; cases ho; cases hc)]
    exact hh
theorem owns_ne {w : World} {base : Nat} {e t : TypeId} {v : Value} {n g : Nat} {xs : List Value} {cs : Array Value} (h : w.ownsRow base e 1 v n xs) (hb : Blk w g t cs) (hne : t ≠ e) : v.ownBlock ≠ some g := by
  intro e'
  rcases h.2 with ⟨rfl, _⟩ | ⟨g', cap, cur, rfl, _, hh, _⟩
  · cases e'
  · injection e' with e'
    subst e'
    rw [show w.heap[g']? = _ from hb] at hh
    cases hh
    exact hne rfl
theorem owns_far {w w' : World} {base : Nat} {e : TypeId} {v : Value} {n g : Nat} {xs : List Value} (h : w.ownsRow base e 1 v n xs) (hg : w.grownBy w' (some g)) (hne : v.ownBlock ≠ some g) : w'.ownsRow base e 1 v n xs := by
  have hlt := h.lt
  obtain ⟨h1, h2⟩ := h
  refine ⟨h1, ?_⟩
  rcases h2 with h2 | ⟨g', cap, cur, rfl, hb, hh, r⟩
  · exact .inl h2
  · refine .inr ⟨g', cap, cur, rfl, hb, ?_, r⟩
    rw [hg.block g' (hlt g' rfl).2 (fun e => hne (by rw [← e]; rfl))]
    exact hh

/-- Between two rounds of Text: the digits so far, in the text's variable (block tb). -/
structure TxtMem (w : World) (tb B : Nat) (L : List UInt8) (W : World) : Prop where
  below : Below w.heap.size w W
  tbw : w.heap.size ≤ tb
  bw : w.heap.size ≤ B
  bsz : B ≤ W.heap.size
  text : ∃ A n c, Blk W tb 88 #[.slice A n c] ∧ W.ownsRow B 5 1 (.slice A n c) n (Lib.byteCells L)
theorem TxtMem.kept {w : World} {tb B : Nat} {L : List UInt8} {X Y : World} {row : Option Nat} (h : TxtMem w tb B L X) (hg : X.grownBy Y row) {C : Nat} (hC : w.heap.size ≤ C)
    (hr : ∀ r, row = some r → C ≤ r ∧ ∃ o : Obj, X.heap[r]? = some o ∧ o.isCells = false) : TxtMem w tb B L Y := by
  obtain ⟨A, n, c, h1, h2⟩ := h.text
  have hr2 : ∀ r, row = some r → ∃ o : Obj, X.heap[r]? = some o ∧ o.isCells = false := fun r e => (hr r e).2
  exact ⟨h.below.grown hg h.below.size (fun r e => by have := (hr r e).1; omega), h.tbw, h.bw, Nat.le_trans h.bsz hg.size, A, n, c, h1.kept hg hr2, owns_kept h2 hg hr2⟩

theorem nat_pow9 : (10 : Nat) ^ 9 = 1000000000 := by decide

set_option maxHeartbeats 4000000 in
theorem text_zero (A0 : Option Addr) (xs : List Nat) (n0 c0 : Nat) (w : World) (hl : xs.length = n0) (hr : Ra w w.heap.size A0 xs) (hd : Dg xs) (hn : n0 ≤ 1000) (hc : n0 ≤ c0) (h0 : U xs = 0) :
    Calls Tryz.prog 28 #[.slice A0 n0 c0] w fun e w' => e = .returned (.string ⟨(Lib.decDigits (U xs)).toArray⟩) ∧ Below w.heap.size w w' := by
  have hgr := groupsOf_any A0 xs n0 c0 w hl hr hd (by omega) hc
  rw [h0, grp_zero] at hgr
  rw [h0]
  refine calls_of_leave Tryz.func28 rfl ?_
  simp only [Tryz.ntmps28, List.size_toArray, List.length_cons, List.length_nil, Nat.reduceAdd, Nat.reduceSub, Array.replicate_succ, Array.replicate_zero, List.push_toArray, List.append_toArray, List.nil_append, List.cons_append]
  clear hl h0
  go_wp2_with fail
  refine hgr.mono ?_
  rintro e w1 ⟨v, rfl, how, hb1⟩
  obtain ⟨A, c, rfl, hc1⟩ := how.form
  go_wp2_with fail
  exact leave_plain (v := .string ⟨#[48]⟩) (by simp [results, Tryz.results28, go_sem]) ⟨by rw [Lib.decDigits_one (by omega)]; rfl, hb1⟩

set_option maxHeartbeats 8000000 in
theorem text_pos (A0 : Option Addr) (xs : List Nat) (n0 c0 : Nat) (w : World) (hl : xs.length = n0) (hr : Ra w w.heap.size A0 xs) (hd : Dg xs) (hn : n0 ≤ 1000) (hc : n0 ≤ c0) (h0 : 0 < U xs) (htab : Tab w) :
    Calls Tryz.prog 28 #[.slice A0 n0 c0] w fun e w' => e = .returned (.string ⟨(Lib.decDigits (U xs)).toArray⟩) ∧ Below w.heap.size w w' := by
  have hgr := groupsOf_any A0 xs n0 c0 w hl hr hd (by omega) hc
  obtain ⟨gs, hgs⟩ : ∃ gs, grp (U xs) = gs := ⟨_, rfl⟩
  have hlen := grp_len32 hd
  have htop := grp_top (U xs) h0
  have hdg := grp_dg (U xs)
  have hgv := GV_grp (U xs)
  have hpos : 0 < gs.length := by rw [← hgs, grp_pos h0]; simp
  rw [hgs] at hgr hlen htop hdg hgv
  rw [hl] at hlen
  obtain ⟨last, hlast⟩ : ∃ l, gs.length = l + 1 := ⟨gs.length - 1, by omega⟩
  rw [hlast] at hlen htop
  rw [Nat.add_sub_cancel] at htop
  have hnth : ∀ k, nth gs k < 1000000000 := fun k => by
    by_cases h : k < gs.length
    · rw [nth_in h]; exact hdg _ (List.getElem_mem h)
    · rw [nth_out (by omega)]; omega
  have HL := Lib.hid hlast
  have HGV := Lib.hid hgv
  have htopb := hnth last
  have HN := Lib.hid hnth
  have HSM := Lib.hid (dec_small hd hl)
  clear hgs hpos hdg hgv hlast hnth hl
  obtain ⟨N, hN⟩ : ∃ N, U xs = N := ⟨_, rfl⟩
  rw [hN] at HGV HSM h0 ⊢
  clear hN
  refine calls_of_leave Tryz.func28 rfl ?_
  simp only [Tryz.ntmps28, List.size_toArray, List.length_cons, List.length_nil, Nat.reduceAdd, Nat.reduceSub, Array.replicate_succ, Array.replicate_zero, List.push_toArray, List.append_toArray, List.nil_append, List.cons_append]
  go_wp2_with fail
  refine hgr.mono ?_
  rintro e w1 ⟨v, rfl, how, hb1⟩
  rw [HL.out] at how
  obtain ⟨A, c, rfl, hc1⟩ := how.form
  have HOW := Lib.hid how
  have hrow := how.row
  rcases hrow with ⟨_, h, _⟩ | ⟨gb, rfl⟩
  · omega
  have hra := how.reads.1
  have hglt : gb < w1.heap.size := (World.ownsRow.lt how gb rfl).2
  have hgb0 : w.heap.size ≤ gb := (World.ownsRow.lt how gb rfl).1
  have hct : w1.cell? ⟨gb, last, none⟩ = some (.int .u32 ((nth gs last : Nat) : Int)) := by
    obtain ⟨b, o, hA, _, hcell⟩ := hra.at_ (k := last) (by rw [HL.out]; omega)
    injection hA with hA
    injection hA with e1 e2
    subst e1 e2
    simpa using hcell
  have htab1 : Tab w1 := htab.below hb1
  clear how
  go_wp2_with fail
  refine (appendUint_any w1.heap.size 0 (nth gs last) (by omega) (.slice none 0 0) [] w1 (World.ownsRow_nil _ _ _ _) (Nat.le_refl _) (by omega) htab1).mono ?_
  rintro e w2 ⟨v2, rfl, hown2, hb2⟩
  obtain ⟨A2, cc2, rfl, hcc2⟩ := ownsRow_form w2 hown2
  rw [Nat.zero_add, List.nil_append] at hown2
  rw [Nat.zero_add] at hcc2
  rw [Nat.zero_add]
  have hb2' : Below w.heap.size w w2 := hb1.trans (hb2.mono hb1.size)
  have hs12 := hb2.size
  have hs01 := hb1.size
  have HO2 := Lib.hid hown2
  clear hown2
  go_wp2_with fail
  refine (backv_calls (some ⟨gb, 0, none⟩) last c _).mono ?_
  rintro e w' ⟨rfl, rfl⟩
  obtain ⟨W0, hW0⟩ : ∃ W0, (w2.alloc (.cells #[.slice A2 (Lib.decDigits (nth gs last)).length cc2] 88)).alloc (.cells #[.slice (some ⟨gb, 0, none⟩) last c] 22) = W0 := ⟨_, rfl⟩
  have hsW : W0.heap.size = w2.heap.size + 2 := by rw [← hW0]; simp
  have hB20 : Below w2.heap.size w2 W0 := by rw [← hW0]; exact ((Below.refl _ _).alloc (Nat.le_refl _) _).alloc (by simp) _
  have hI0 : TxtMem w w2.heap.size w1.heap.size (Lib.decDigits (GV (gs.drop (last - 0)))) W0 := by
    have e1 : GV (gs.drop (last - 0)) = nth gs last := by rw [Nat.sub_zero, GV_drop, List.drop_eq_nil_of_le (by rw [HL.out]; omega)]; simp [GV]
    rw [e1]
    refine ⟨hb2'.trans (hB20.mono (by omega)), by omega, hs01, by omega, A2, _, cc2, ?_, owns_any_below HO2.out hB20⟩
    rw [← hW0]
    exact (Blk.new w2 _ _).alloc _
  have hxl : (gs.take last).length = last := by simp; have := HL.out; omega
  have hraW : Ra W0 W0.heap.size (some ⟨gb, 0, none⟩) (gs.take last) := (((hra.below hb2 (Nat.le_refl _)).more hs12).below hB20 (Nat.le_refl _) |>.more (by omega)).take last
  have hbx : W0.cell? ⟨w2.heap.size + 1, 0, none⟩ = some (.slice (some ⟨gb, 0, none⟩) last c) := by
    rw [← hW0]
    have := Blk.new (w2.alloc (.cells #[.slice A2 (Lib.decDigits (nth gs last)).length cc2] 88)) 22 #[.slice (some ⟨gb, 0, none⟩) last c]
    rw [World.size_alloc] at this
    exact this.cell 0
  have hgo := backv_goes Fence.wide 4 trivial rfl (by omega) (w2.heap.size + 1) (some ⟨gb, 0, none⟩) (gs.take last) last c W0 hxl hraW (by omega) (by omega) hbx
  have hbk : Blk W0 (w2.heap.size + 1) 22 #[.slice (some ⟨gb, 0, none⟩) last c] := by
    rw [← hW0]
    have := Blk.new (w2.alloc (.cells #[.slice A2 (Lib.decDigits (nth gs last)).length cc2] 88)) 22 #[.slice (some ⟨gb, 0, none⟩) last c]
    rw [World.size_alloc] at this
    exact this
  have HI0 := Lib.hid (And.intro hI0 (And.intro (Nat.le_refl W0.heap.size) hbk))
  have HXL := Lib.hid hxl
  clear hI0 hbx hxl hbk
  go_wp2_with fail
  clear hW0
  refine (wpIn_wide (n := 5)).1 ?_
  refine wpIn_rangeFunc_goes rfl (by omega) (gf := 76) (lb := #[.pointer (some ⟨w2.heap.size + 1, 0, none⟩)]) rfl trivial (enters_of Tryz.func76 (by kernel_rfl) rfl)
    hgo (bkeep_lt HXL.out hraW (by omega)) (Below.refl _ _) (fun _ => rfl)
    (fun k W => TxtMem w w2.heap.size w1.heap.size (Lib.decDigits (GV (gs.drop (last - k)))) W ∧ W0.heap.size ≤ W.heap.size ∧ Blk W (w2.heap.size + 1) 22 #[.slice (some ⟨gb, 0, none⟩) last c]) (fun _ _ _ => False)
    (fun s X Y row hs hg hr => ⟨hs.1.kept hg (by omega) hr, Nat.le_trans hs.2.1 hg.size, hs.2.2.kept hg (fun r e => (hr r e).2)⟩) (fun _ _ _ _ _ hs _ _ => hs) HI0.out ?round ?done ?stop
  case round =>
    intro l k W hk _
    simp only [benc]
    gi_wp2
    refine ⟨trivial, ?_⟩
    rintro W ⟨hm, hW, hbx⟩
    obtain ⟨p, hp⟩ : ∃ p, last - 1 - k = p := ⟨_, rfl⟩
    have hpl : p < last := by omega
    rw [hp, nth_take hpl]
    have hgp := HN.out p
    obtain ⟨x, hx⟩ : ∃ x, nth gs p = x := ⟨_, rfl⟩
    rw [hx] at hgp ⊢
    obtain ⟨A5, n5, c5, hb5, hown5⟩ := hm.text
    have cx := hb5.cell 0
    have fx := hb5.frozen 0
    have hBelow : Below w.heap.size w W := hm.below
    have HM := Lib.hid hm
    have HO5 := Lib.hid hown5
    have HB5 := Lib.hid hb5
    have HBX := Lib.hid hbx
    -- the next number
    have hnext : GV (gs.drop (last - (k + 1))) = GV (gs.drop (last - k)) * 1000000000 + x := by
      have h1 := GV_drop gs (last - (k + 1))
      rw [show last - (k + 1) = p by omega] at h1 ⊢
      rw [hx, show p + 1 = last - k by omega] at h1
      omega
    have hcur : 0 < GV (gs.drop (last - k)) := by
      have key : ∀ j, j ≤ last → 0 < GV (gs.drop (last - j)) := fun j hj => by
        induction j with
        | zero => rw [Nat.sub_zero, GV_drop]; omega
        | succ j ih =>
          have h1 := GV_drop gs (last - (j + 1))
          rw [show last - (j + 1) + 1 = last - j by omega] at h1
          have := ih (by omega)
          omega
      exact key k (by omega)
    have hstr : Lib.decDigits (GV (gs.drop (last - (k + 1)))) = Lib.decDigits (GV (gs.drop (last - k))) ++ padk 9 x := by
      rw [hnext, ← nat_pow9]
      exact decDigits_pad 9 _ x hcur (by omega)
    have HSTR := Lib.hid hstr
    have hfmt : ∀ wz, Below w.heap.size w wz → Calls Tryz.prog 56 #[.int .u64 (1000000000 + (x : Int)), .int .i64 10] wz fun e w' => e = .returned (.string ⟨(Lib.decDigits (1000000000 + x)).toArray⟩) ∧ Below wz.heap.size wz w' := fun wz hz => by
      have := formatUint_any (1000000000 + x) (by omega) (by omega) wz (htab.below hz)
      simpa using this
    have hdl : (Lib.decDigits (1000000000 + x)).length = 10 := by
      have h1 := congrArg List.length (pad9 hgp)
      rw [List.length_drop, padk_len] at h1
      omega
    have HDL := Lib.hid hdl
    have HPAD := Lib.hid (pad9 hgp)
    obtain ⟨ds, hds⟩ : ∃ ds, Lib.decDigits (1000000000 + x) = ds := ⟨_, rfl⟩
    simp only [hds] at hfmt HDL HPAD
    have h1le : (1 : Int) ≤ (ds.length : Int) := by have := HDL.out; omega
    have HEX : Hid ((({ data := ds.toArray } : ByteArray).extract 1 ds.length).data.toList = padk 9 x) := Lib.hid (by
      rw [← HPAD.out]
      simp only [ByteArray.data_extract, Array.toList_extract, List.extract_eq_take_drop, List.drop_one]
      exact List.take_of_length_le (by simp))
    have HES : Hid ((({ data := ds.toArray } : ByteArray).extract 1 ds.length).size = 9) := Lib.hid (by
      have h1 := congrArg List.length HEX.out
      rw [padk_len] at h1
      simpa [ByteArray.size] using h1)
    have hLlen : n5 ≤ 100000 := by
      have h1 := hown5.1
      rw [Lib.byteCells_length] at h1
      have h2 := decDigits_len (u := GV (gs.drop (last - k))) (k := 10 * n0) (Nat.lt_of_le_of_lt (by rw [← HGV.out]; exact GV_drop_le _ _) HSM.out)
      omega
    have HP := Lib.hid hp
    have hsW5 := hm.bsz
    clear hp hx hm hown5 hb5 hbx hnext hcur hstr hdl hds
    have wx1 : IntKind.u64.wrap (x : Int) = (x : Int) := IntWalk.u64_in _ (by omega)
    have wx2 : IntKind.u64.wrap (1000000000 + (x : Int)) = 1000000000 + (x : Int) := IntWalk.u64_in _ (by omega)
    gi_wp2_with fail
    refine round_held (S := fun _ => True) (by kernel_rfl) (by kernel_rfl) (fun h => by obtain ⟨_, _, h⟩ := h; exact h) trivial (fun _ => ?_)
    refine wpAnyH_take (i := 1) (v := ?_) rfl (by kernel_rfl) (by kernel_rfl) (by kernel_rfl) (fun _ _ _ h => h) (Or.inl ⟨by rfl, fun w hS => ?_⟩) trivial ?_
    rotate_left
    · go_simp
      try with_reducible rfl
    dsimp only [Act.put]
    try simp only [List.setIfInBounds_toArray, List.set_cons_zero, List.set_cons_succ]
    refine wpAnyH_take (i := 2) (v := ?_) rfl (by kernel_rfl) (by kernel_rfl) (by kernel_rfl) (fun _ _ _ h => h) (Or.inl ⟨by rfl, fun w hS => ?_⟩) trivial ?_
    rotate_left
    · go_simp
      try with_reducible rfl
    dsimp only [Act.put]
    try simp only [List.setIfInBounds_toArray, List.set_cons_zero, List.set_cons_succ]
    refine wpAnyH_take (i := 3) (v := ?_) rfl (by kernel_rfl) (by kernel_rfl) (by kernel_rfl) (fun _ _ _ h => h) (Or.inl ⟨by rfl, fun w hS => ?_⟩) trivial ?_
    rotate_left
    · go_simp
      try with_reducible rfl
    dsimp only [Act.put]
    try simp only [List.setIfInBounds_toArray, List.set_cons_zero, List.set_cons_succ]
    refine wpAnyH_ready (rs := [0, 4]) (by kernel_rfl) (by simp) (AllReadyH.cons rfl (fun K hK => ?_) (AllReadyH.cons rfl (fun K hK => ?_) AllReadyH.nil))
    · go_simp
      refine hK.out _ _ trivial (fun _ => ?_)
      clear hK K
      refine wpAnyH_ready (rs := [4]) (by kernel_rfl) (by simp) (AllReadyH.cons rfl (fun K hK => ?_) AllReadyH.nil)
      go_simp
      refine (hfmt _ hBelow.drew).mono ?_
      rintro e W3 ⟨rfl, hbf⟩
      refine hK.out _ _ trivial (fun _ => ?_)
      clear hK K
      have cx3 : W3.cell? ⟨w2.heap.size, 0, none⟩ = some (.slice A5 n5 c5) := (hbf.cell (World.block_lt_of_cell? W.drew _ cx)).trans cx
      have HB3 := Lib.hid (Blk.below (w := W.drew) HB5.out hbf (Blk.lt (w := W.drew) HB5.out))
      have HX3 := Lib.hid (Blk.below (w := W.drew) HBX.out hbf (Blk.lt (w := W.drew) HBX.out))
      have HO3 := Lib.hid (owns_any_below (w := W.drew) HO5.out hbf)
      have hk3 : KeepsOthers W W3 := (KeepsOthers.drew W).trans (KeepsOthers.of_below hbf)
      have hs3 : Same (bkeep (w2.heap.size + 1) (some ⟨gb, 0, none⟩) last k) W W3 := Same.drew.trans (Same.of_below hbf (fun q hq => by have := bkeep_lt HXL.out hraW (by omega) k q hq; show q.block < W.drew.heap.size; have h2 : W.drew.heap.size = W.heap.size := rfl; omega))
      have hsz3 : W.heap.size ≤ W3.heap.size := hbf.size
      have hwB3 : Below w.heap.size w W3 := hBelow.trans ((show Below w.heap.size W W3 from (Below.refl _ W).drew.trans (hbf.mono (by show w.heap.size ≤ W.heap.size; omega))))
      clear hbf
      refine wpAnyH_take (i := 5) (v := ?_) rfl (by kernel_rfl) (by kernel_rfl) (by kernel_rfl) (fun _ _ _ h => h) (Or.inl ⟨by rfl, fun w hS => ?_⟩) trivial ?_
      rotate_left
      · go_simp
        try with_reducible rfl
      dsimp only [Act.put]
      try simp only [List.setIfInBounds_toArray, List.set_cons_zero, List.set_cons_succ]
      refine wpAnyH_ready (rs := [6]) (by kernel_rfl) (by simp) (AllReadyH.cons rfl (fun K hK => ?_) AllReadyH.nil)
      refine step_append_str _ rfl (.tmp 28) (.tmp 33) 88 9 rfl w1.heap.size 5 Tryz.underlying88 Tryz.underlying9 info_u8 (.slice A5 n5 c5) n5 _ rfl HO3.out _ rfl (by have := HES.out; omega) (by omega) ?_
      intro A6 n6 c6 W6 hn6 hc6 hown6 hg6
      refine hK.out _ _ trivial (fun _ => ?_)
      clear hK K
      dsimp only [Act.put]
      try simp only [List.setIfInBounds_toArray, List.set_cons_zero, List.set_cons_succ]
      have hne3 := owns_ne HO3.out HB3.out (by decide)
      have hnx3 := owns_ne HO3.out HX3.out (by decide)
      have hb6 := HB3.out.grown hg6 (fun e => hne3 e.symm)
      have hx6 := HX3.out.grown hg6 (fun e => hnx3 e.symm)
      have hne6 := owns_ne hown6.out hb6 (by decide)
      have cx6 := hb6.cell 0
      have fx6 := hb6.frozen 0
      have hk6 : KeepsOthers W W6 := hk3.trans (KeepsOthers.owned HO3.out hg6)
      have hrow3 : ∀ r, (Value.slice A5 n5 c5).ownBlock = some r → w1.heap.size ≤ r := fun r hr => (World.ownsRow.lt HO3.out r hr).1
      have hs6 : Same (bkeep (w2.heap.size + 1) (some ⟨gb, 0, none⟩) last k) W W6 := hs3.trans (Same.of_written hg6 (fun q hq e => by
        rcases hq with rfl | ⟨b, o', j, hA, hj, rfl⟩
        · exact hnx3 e.symm
        · injection hA with hA
          injection hA with h1 h2
          have := hrow3 _ e.symm
          simp only at this
          omega))
      have hB6 : Below w.heap.size w W6 := hwB3.grown hg6 (by omega) (fun r hr => by have := hrow3 r hr; omega)
      have hsz6 := hg6.size
      have HF6 : Hid (W6.ownsRow w1.heap.size 5 1 (.slice A6 n6 c6) n6 (Lib.byteCells (Lib.decDigits (GV (gs.drop (last - (k + 1))))))) := Lib.hid (by
        have := hown6.out
        rw [Lib.strCells_eq, HEX.out, ← Lib.byteCells_append, ← HSTR.out] at this
        exact this)
      have HB6 := Lib.hid hb6
      have HX6 := Lib.hid hx6
      clear hown6 hg6 hb6 hx6 HO3 HB3 HX3
      refine wpAnyH_ready (rs := [7]) (by kernel_rfl) (by simp) (AllReadyH.cons rfl (fun K hK => ?_) AllReadyH.nil)
      go_simp
      refine hK.out _ _ trivial (fun _ => ?_)
      clear hK K
      refine wpAnyH_done (by kernel_rfl) ?_ _
      refine ⟨(hk6.trans (KeepsOthers.setCell _ _ _)).from _, hs6.trans (Same.setCell (fun q hq e => ?_) _), ⟨hB6.setCell (by simp; omega) _, by omega, by omega, by rw [setCell_size]; omega, A6, n6, c6, HB6.out.set_ 0 _, owns_far HF6.out (grownBy_setCell' W6 w2.heap.size _) hne6⟩, by rw [setCell_size]; omega, HX6.out.far (by simp) _⟩
      rcases hq with rfl | ⟨b, o', j, hA, hj, rfl⟩
      · simp at e
      · injection hA with hA
        injection hA with h1 h2
        simp only at e
        omega
    · go_simp
      refine (hfmt _ hBelow.drew).mono ?_
      rintro e W3 ⟨rfl, hbf⟩
      refine hK.out _ _ trivial (fun _ => ?_)
      clear hK K
      have cx3 : W3.cell? ⟨w2.heap.size, 0, none⟩ = some (.slice A5 n5 c5) := (hbf.cell (World.block_lt_of_cell? W.drew _ cx)).trans cx
      have HB3 := Lib.hid (Blk.below (w := W.drew) HB5.out hbf (Blk.lt (w := W.drew) HB5.out))
      have HX3 := Lib.hid (Blk.below (w := W.drew) HBX.out hbf (Blk.lt (w := W.drew) HBX.out))
      have HO3 := Lib.hid (owns_any_below (w := W.drew) HO5.out hbf)
      have hk3 : KeepsOthers W W3 := (KeepsOthers.drew W).trans (KeepsOthers.of_below hbf)
      have hs3 : Same (bkeep (w2.heap.size + 1) (some ⟨gb, 0, none⟩) last k) W W3 := Same.drew.trans (Same.of_below hbf (fun q hq => by have := bkeep_lt HXL.out hraW (by omega) k q hq; show q.block < W.drew.heap.size; have h2 : W.drew.heap.size = W.heap.size := rfl; omega))
      have hsz3 : W.heap.size ≤ W3.heap.size := hbf.size
      have hwB3 : Below w.heap.size w W3 := hBelow.trans ((show Below w.heap.size W W3 from (Below.refl _ W).drew.trans (hbf.mono (by show w.heap.size ≤ W.heap.size; omega))))
      clear hbf
      refine wpAnyH_take (i := 5) (v := ?_) rfl (by kernel_rfl) (by kernel_rfl) (by kernel_rfl) (fun _ _ _ h => h) (Or.inl ⟨by rfl, fun w hS => ?_⟩) trivial ?_
      rotate_left
      · go_simp
        try with_reducible rfl
      dsimp only [Act.put]
      try simp only [List.setIfInBounds_toArray, List.set_cons_zero, List.set_cons_succ]
      refine wpAnyH_ready (rs := [0]) (by kernel_rfl) (by simp) (AllReadyH.cons rfl (fun K hK => ?_) AllReadyH.nil)
      go_simp
      refine hK.out _ _ trivial (fun _ => ?_)
      clear hK K
      refine wpAnyH_ready (rs := [6]) (by kernel_rfl) (by simp) (AllReadyH.cons rfl (fun K hK => ?_) AllReadyH.nil)
      refine step_append_str _ rfl (.tmp 28) (.tmp 33) 88 9 rfl w1.heap.size 5 Tryz.underlying88 Tryz.underlying9 info_u8 (.slice A5 n5 c5) n5 _ rfl HO3.out _ rfl (by have := HES.out; omega) (by omega) ?_
      intro A6 n6 c6 W6 hn6 hc6 hown6 hg6
      refine hK.out _ _ trivial (fun _ => ?_)
      clear hK K
      dsimp only [Act.put]
      try simp only [List.setIfInBounds_toArray, List.set_cons_zero, List.set_cons_succ]
      have hne3 := owns_ne HO3.out HB3.out (by decide)
      have hnx3 := owns_ne HO3.out HX3.out (by decide)
      have hb6 := HB3.out.grown hg6 (fun e => hne3 e.symm)
      have hx6 := HX3.out.grown hg6 (fun e => hnx3 e.symm)
      have hne6 := owns_ne hown6.out hb6 (by decide)
      have cx6 := hb6.cell 0
      have fx6 := hb6.frozen 0
      have hk6 : KeepsOthers W W6 := hk3.trans (KeepsOthers.owned HO3.out hg6)
      have hrow3 : ∀ r, (Value.slice A5 n5 c5).ownBlock = some r → w1.heap.size ≤ r := fun r hr => (World.ownsRow.lt HO3.out r hr).1
      have hs6 : Same (bkeep (w2.heap.size + 1) (some ⟨gb, 0, none⟩) last k) W W6 := hs3.trans (Same.of_written hg6 (fun q hq e => by
        rcases hq with rfl | ⟨b, o', j, hA, hj, rfl⟩
        · exact hnx3 e.symm
        · injection hA with hA
          injection hA with h1 h2
          have := hrow3 _ e.symm
          simp only at this
          omega))
      have hB6 : Below w.heap.size w W6 := hwB3.grown hg6 (by omega) (fun r hr => by have := hrow3 r hr; omega)
      have hsz6 := hg6.size
      have HF6 : Hid (W6.ownsRow w1.heap.size 5 1 (.slice A6 n6 c6) n6 (Lib.byteCells (Lib.decDigits (GV (gs.drop (last - (k + 1))))))) := Lib.hid (by
        have := hown6.out
        rw [Lib.strCells_eq, HEX.out, ← Lib.byteCells_append, ← HSTR.out] at this
        exact this)
      have HB6 := Lib.hid hb6
      have HX6 := Lib.hid hx6
      clear hown6 hg6 hb6 hx6 HO3 HB3 HX3
      refine wpAnyH_ready (rs := [7]) (by kernel_rfl) (by simp) (AllReadyH.cons rfl (fun K hK => ?_) AllReadyH.nil)
      go_simp
      refine hK.out _ _ trivial (fun _ => ?_)
      clear hK K
      refine wpAnyH_done (by kernel_rfl) ?_ _
      refine ⟨(hk6.trans (KeepsOthers.setCell _ _ _)).from _, hs6.trans (Same.setCell (fun q hq e => ?_) _), ⟨hB6.setCell (by simp; omega) _, by omega, by omega, by rw [setCell_size]; omega, A6, n6, c6, HB6.out.set_ 0 _, owns_far HF6.out (grownBy_setCell' W6 w2.heap.size _) hne6⟩, by rw [setCell_size]; omega, HX6.out.far (by simp) _⟩
      rcases hq with rfl | ⟨b, o', j, hA, hj, rfl⟩
      · simp at e
      · injection hA with hA
        injection hA with h1 h2
        simp only at e
        omega
  case done =>
    rintro D W hD ⟨hm, hW, hbx⟩ hK
    obtain ⟨A5, n5, c5, hb5, hown5⟩ := hm.text
    rw [Nat.sub_self, List.drop_zero, HGV.out] at hown5
    have cx := hb5.cell 0
    obtain ⟨ds, hds⟩ : ∃ ds, Lib.decDigits N = ds := ⟨_, rfl⟩
    have hdl : 1 ≤ ds.length := by rw [← hds, Lib.decDigits_length]; exact Lib.nDigits_pos N
    rw [hds] at hown5
    have HDS := Lib.hid hds
    have hn5 : ds.length = n5 := by have := hown5.1; rw [Lib.byteCells_length] at this; omega
    obtain ⟨g5, rfl⟩ : ∃ g5, A5 = some ⟨g5, 0, none⟩ := by
      rcases hown5.2 with ⟨h, h2⟩ | ⟨g, cap, cur, h, _⟩
      · omega
      · injection h with h1 h2 h3
        exact ⟨g, h1⟩
    have hcells : ∀ j (hj : j < ds.length), W.cell? ((⟨g5, 0, none⟩ : Addr).add j) = some (Value.int .u8 (ds[j].toNat : Int)) := fun j hj =>
      World.ownsRow.cells hown5 rfl j _ (by simp [Lib.byteCells, hj])
    have hcv := run_convert_bytes_back (P := Tryz.prog) W 88 9 5 ⟨g5, 0, none⟩ c5 ds Tryz.underlying88 Tryz.underlying5 Tryz.underlying9 hcells
    rw [hn5] at hcv
    have hbel := hm.below
    clear hb5 hown5 hcells hm hn5 hds hdl
    go_wp2_with fail
    exact leave_mark (v := .string ⟨ds.toArray⟩) hK (by simp [results, Tryz.results28, go_sem]) ⟨by rw [HDS.out], mark_below hbel hK (by omega)⟩
  case stop =>
    rintro D c k W _ _ h _
    exact h.elim

theorem text_any (A0 : Option Addr) (xs : List Nat) (n0 c0 : Nat) (w : World) (hl : xs.length = n0) (hr : Ra w w.heap.size A0 xs) (hd : Dg xs) (hn : n0 ≤ 1000) (hc : n0 ≤ c0) (htab : Tab w) :
    Calls Tryz.prog 28 #[.slice A0 n0 c0] w fun e w' => e = .returned (.string ⟨(Lib.decDigits (U xs)).toArray⟩) ∧ Below w.heap.size w w' := by
  rcases Nat.eq_zero_or_pos (U xs) with h0 | h0
  · exact text_zero A0 xs n0 c0 w hl hr hd hn hc h0
  · exact text_pos A0 xs n0 c0 w hl hr hd hn hc h0 htab
end Go.Proofs.YtaifigkbblncpaaGreatDoor
